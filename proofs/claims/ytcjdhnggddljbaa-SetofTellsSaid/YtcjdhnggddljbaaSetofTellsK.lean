/- The law SetofTells: how any texts stand, and their order, is as the document says; no conditions. -/
import Derived.Test.YtcjdhnggddljbaaRows
import Derived.WalkKit
import Derived.ProofKit
import Derived.OpenShut
import Derived.Lib.Hide
import Derived.Test.YtcjdhnggddljbaaSf14
namespace Go.Proofs.Ytcjdhnggddljbaa.setofTells
open Go.ChangeShapes Go.WideShapes Go.ChangeAt Go.RowKit
open Setof Plain

set_option maxRecDepth 100000 in
set_option maxHeartbeats 8000000 in
theorem core (w : World) (a b : ByteArray) (A : Option Addr) (n c : Nat) (l M : List ByteArray) (hx : StrsS w (.slice A n c) l) (ha : Addressed (.slice A n c)) (l1 : a.size ≤ 200) (l2 : b.size ≤ 200) (N : Int) (B q r : Bool)
    (cS : RdSh l 30 100 true) (c1 : RdS 7 l (fun x => #[x, .string a]) (.tuple #[.int .i64 N, .bool B])) (c2 : RdS 8 l (fun x => #[x, .string a]) (.tuple #[.int .i64 N, .bool B]))
    (c3 : Ret 9 #[.string a, .string b] (.bool q)) (c4 : Ret 10 #[.string a, .string b] (.bool q)) (c5 : MkSS 12 l M) (c6 : MkSA 13 l M)
    (c7 : RdS 14 l (fun x => #[x]) (.bool r)) (c8 : RdS 15 l (fun x => #[x]) (.bool r)) :
    Calls Try.prog 3 #[.string a, .string b, .slice A n c] w fun x w' => x = .returned (.bool true) ∧ Since w w' := by
  have HS := Lib.hid (Since.refl w)
  have HX := Lib.hid hx
  have HA := Lib.hid ha
  have t1 : decide ((200 : Int) < (a.size : Int)) = false := decide_eq_false (by omega)
  have t2 : decide ((200 : Int) < (b.size : Int)) = false := decide_eq_false (by omega)
  have cA := awake_mak
  clear hx ha
  cases q
  all_goals cases r
  all_goals cases B
  all_goals
    go_enter Try.func3, Try.ntmps3
    go_wp2_with fail
    refine cS.calls HX.out ?_
    go_wp2_with fail
    refine (c1.calls0 HX.out) ?_
    intro w1 h1
    replace HX := Lib.hid (HX.out.since (by first | exact h1 | exact (Since.alloc (Since.refl _) _).step h1 | exact (Since.alloc (Since.alloc (Since.refl _) _) _).step h1 | exact (Since.drew (Since.refl _)).step h1 | exact (Since.alloc (Since.alloc (Since.alloc (Since.refl _) _) _) _).step h1))
    replace HS := Lib.hid (HS.out.step (by first | exact h1 | exact (Since.alloc (Since.refl _) _).step h1 | exact (Since.alloc (Since.alloc (Since.refl _) _) _).step h1 | exact (Since.drew (Since.refl _)).step h1 | exact (Since.alloc (Since.alloc (Since.alloc (Since.refl _) _) _) _).step h1))
    clear h1
    go_wp2_with fail
    refine (c2.calls0 HX.out) ?_
    intro w2 h2
    replace HX := Lib.hid (HX.out.since (by first | exact h2 | exact (Since.alloc (Since.refl _) _).step h2 | exact (Since.alloc (Since.alloc (Since.refl _) _) _).step h2 | exact (Since.drew (Since.refl _)).step h2 | exact (Since.alloc (Since.alloc (Since.alloc (Since.refl _) _) _) _).step h2))
    replace HS := Lib.hid (HS.out.step (by first | exact h2 | exact (Since.alloc (Since.refl _) _).step h2 | exact (Since.alloc (Since.alloc (Since.refl _) _) _).step h2 | exact (Since.drew (Since.refl _)).step h2 | exact (Since.alloc (Since.alloc (Since.alloc (Since.refl _) _) _) _).step h2))
    clear h2
    go_wp2_with fail
    refine (c3.calls) ?_
    go_wp2_with fail
    refine (c4.calls) ?_
    go_wp2_with fail
    refine (c5.calls0 HX.out) ?_
    intro v5 w5 hv5 h5
    have HV5 := Lib.hid hv5
    clear hv5
    replace HX := Lib.hid (HX.out.since (by first | exact h5 | exact (Since.alloc (Since.refl _) _).step h5 | exact (Since.alloc (Since.alloc (Since.refl _) _) _).step h5 | exact (Since.drew (Since.refl _)).step h5 | exact (Since.alloc (Since.alloc (Since.alloc (Since.refl _) _) _) _).step h5))
    replace HS := Lib.hid (HS.out.step (by first | exact h5 | exact (Since.alloc (Since.refl _) _).step h5 | exact (Since.alloc (Since.alloc (Since.refl _) _) _).step h5 | exact (Since.drew (Since.refl _)).step h5 | exact (Since.alloc (Since.alloc (Since.alloc (Since.refl _) _) _) _).step h5))
    clear h5
    go_wp2_with fail
    refine (c6.calls0 HX.out HA.out) ?_
    intro v6 w6 hv6 h6
    have HV6 := Lib.hid hv6
    clear hv6
    replace HX := Lib.hid (HX.out.since (by first | exact h6 | exact (Since.alloc (Since.refl _) _).step h6 | exact (Since.alloc (Since.alloc (Since.refl _) _) _).step h6 | exact (Since.drew (Since.refl _)).step h6 | exact (Since.alloc (Since.alloc (Since.alloc (Since.refl _) _) _) _).step h6))
    replace HV5 := Lib.hid (HV5.out.since (by first | exact h6 | exact (Since.alloc (Since.refl _) _).step h6 | exact (Since.alloc (Since.alloc (Since.refl _) _) _).step h6 | exact (Since.drew (Since.refl _)).step h6 | exact (Since.alloc (Since.alloc (Since.alloc (Since.refl _) _) _) _).step h6))
    replace HS := Lib.hid (HS.out.step (by first | exact h6 | exact (Since.alloc (Since.refl _) _).step h6 | exact (Since.alloc (Since.alloc (Since.refl _) _) _).step h6 | exact (Since.drew (Since.refl _)).step h6 | exact (Since.alloc (Since.alloc (Since.alloc (Since.refl _) _) _) _).step h6))
    clear h6
    go_wp2_with fail
    refine (equals_same _ _ _ _ HV5.out HV6.out).mono ?_
    rintro e w7 ⟨rfl, h7⟩
    replace HX := Lib.hid (HX.out.since h7)
    replace HS := Lib.hid (HS.out.step h7)
    clear h7
    go_wp2_with fail
    refine (c7.calls0 HX.out) ?_
    intro w8 h8
    replace HX := Lib.hid (HX.out.since (by first | exact h8 | exact (Since.alloc (Since.refl _) _).step h8 | exact (Since.alloc (Since.alloc (Since.refl _) _) _).step h8 | exact (Since.drew (Since.refl _)).step h8 | exact (Since.alloc (Since.alloc (Since.alloc (Since.refl _) _) _) _).step h8))
    replace HS := Lib.hid (HS.out.step (by first | exact h8 | exact (Since.alloc (Since.refl _) _).step h8 | exact (Since.alloc (Since.alloc (Since.refl _) _) _).step h8 | exact (Since.drew (Since.refl _)).step h8 | exact (Since.alloc (Since.alloc (Since.alloc (Since.refl _) _) _) _).step h8))
    clear h8
    go_wp2_with fail
    refine (c8.calls0 HX.out) ?_
    intro w9 h9
    replace HX := Lib.hid (HX.out.since (by first | exact h9 | exact (Since.alloc (Since.refl _) _).step h9 | exact (Since.alloc (Since.alloc (Since.refl _) _) _).step h9 | exact (Since.drew (Since.refl _)).step h9 | exact (Since.alloc (Since.alloc (Since.alloc (Since.refl _) _) _) _).step h9))
    replace HS := Lib.hid (HS.out.step (by first | exact h9 | exact (Since.alloc (Since.refl _) _).step h9 | exact (Since.alloc (Since.alloc (Since.refl _) _) _).step h9 | exact (Since.drew (Since.refl _)).step h9 | exact (Since.alloc (Since.alloc (Since.alloc (Since.refl _) _) _) _).step h9))
    clear h9
    go_wp2_with fail
    refine (cA.calls0) ?_
    intro w10 h10
    replace HS := Lib.hid (HS.out.step (by first | exact h10 | exact (Since.alloc (Since.refl _) _).step h10 | exact (Since.alloc (Since.alloc (Since.refl _) _) _).step h10 | exact (Since.drew (Since.refl _)).step h10 | exact (Since.alloc (Since.alloc (Since.alloc (Since.refl _) _) _) _).step h10))
    clear h10
    go_wp2_with fail
    go_ret
    exact ⟨rfl, HS.out⟩
set_option maxRecDepth 100000 in
set_option maxHeartbeats 4000000 in
theorem core_big (w : World) (a b : ByteArray) (A : Option Addr) (n c : Nat) (l : List ByteArray) (hx : StrsS w (.slice A n c) l) (q : Bool) (hq : 200 < a.size ∨ 200 < b.size ∨ q = false) (cS : RdSh l 30 100 q) :
    Calls Try.prog 3 #[.string a, .string b, .slice A n c] w fun x w' => x = .returned (.bool true) ∧ Since w w' := by
  have HS := Lib.hid (Since.refl w)
  have HX := Lib.hid hx
  have cA := awake_mak
  clear hx
  by_cases h1 : 200 < a.size
  · have t1 : decide ((200 : Int) < (a.size : Int)) = true := decide_eq_true (by omega)
    clear hq
    go_enter Try.func3, Try.ntmps3
    go_wp2_with fail
    refine (cA.calls0) ?_
    intro w10 h10
    replace HS := Lib.hid (HS.out.step (by first | exact h10 | exact (Since.alloc (Since.refl _) _).step h10 | exact (Since.alloc (Since.alloc (Since.refl _) _) _).step h10 | exact (Since.drew (Since.refl _)).step h10 | exact (Since.alloc (Since.alloc (Since.alloc (Since.refl _) _) _) _).step h10))
    clear h10
    go_wp2_with fail
    go_ret
    exact ⟨rfl, HS.out⟩
  · have t1 : decide ((200 : Int) < (a.size : Int)) = false := decide_eq_false (by omega)
    by_cases h2 : 200 < b.size
    · have t2 : decide ((200 : Int) < (b.size : Int)) = true := decide_eq_true (by omega)
      clear hq
      go_enter Try.func3, Try.ntmps3
      go_wp2_with fail
      refine (cA.calls0) ?_
      intro w10 h10
      replace HS := Lib.hid (HS.out.step (by first | exact h10 | exact (Since.alloc (Since.refl _) _).step h10 | exact (Since.alloc (Since.alloc (Since.refl _) _) _).step h10 | exact (Since.drew (Since.refl _)).step h10 | exact (Since.alloc (Since.alloc (Since.alloc (Since.refl _) _) _) _).step h10))
      clear h10
      go_wp2_with fail
      go_ret
      exact ⟨rfl, HS.out⟩
    · have t2 : decide ((200 : Int) < (b.size : Int)) = false := decide_eq_false (by omega)
      have hqf : q = false := by rcases hq with h | h | h; exact absurd h h1; exact absurd h h2; exact h
      subst hqf
      clear hq
      go_enter Try.func3, Try.ntmps3
      go_wp2_with fail
      refine cS.calls HX.out ?_
      go_wp2_with fail
      refine (cA.calls0) ?_
      intro w10 h10
      replace HS := Lib.hid (HS.out.step (by first | exact h10 | exact (Since.alloc (Since.refl _) _).step h10 | exact (Since.alloc (Since.alloc (Since.refl _) _) _).step h10 | exact (Since.drew (Since.refl _)).step h10 | exact (Since.alloc (Since.alloc (Since.alloc (Since.refl _) _) _) _).step h10))
      clear h10
      go_wp2_with fail
      go_ret
      exact ⟨rfl, HS.out⟩
set_option maxRecDepth 100000 in
theorem walk (w : World) (a b : ByteArray) (A : Option Addr) (n c : Nat) (l : List ByteArray) (_w0 : a.size ≤ maxLen) (_w1 : b.size ≤ maxLen) (hx : StrsS w (.slice A n c) l ∧ Addressed (.slice A n c)) (_hn : n = l.length) (_hl : ∀ s ∈ l, s.size ≤ maxLen) :
    Calls Try.prog 3 #[.string a, .string b, .slice A n c] w fun e w' => e = .returned (.bool true) ∧ Below w.heap.size w w' := by
  by_cases hb : 200 < a.size ∨ 200 < b.size ∨ shortsB l 30 100 = false
  · exact core_big w a b A n c l hx.1 _ hb (shorts_rd l 30 100 _ rfl)
  · have hsm : shortsB l 30 100 = true := by cases h : shortsB l 30 100 with | true => rfl | false => exact absurd (Or.inr (Or.inr h)) hb
    obtain ⟨h1, h2⟩ := shortsB_spec l 30 100 hsm
    have h3 : ∀ s ∈ l, s.size ≤ 140737488355328 := fun s hs => by have := h2 s hs; omega
    exact core w a b A n c l _ hx.1 hx.2 (by omega) (by omega) _ _ _ _ (shorts_rd l 30 100 true hsm.symm) (place_rd l a (by omega)) (rplace_rd l a (by omega) (by omega) h3) (less_ret a b _ rfl) (rless_ret a b (by omega) (by omega) _ rfl)
      (sort_rd l (by omega)) (rsort_rd l (by omega) h3) (rises_rd l) (rrises_rd l h3)

set_option maxRecDepth 100000 in
theorem own : ownKnob Try.prog.godebug = none := by kernel_rfl
set_option maxRecDepth 100000 in
theorem laidOut : laidOutB Try.prog = true := by kernel_rfl

set_option maxRecDepth 100000 in
theorem lifted (os : Os) (started : os.Started) (H : Type) (enc : TypeId × Value → H) :
    ReturnsInHanded {} Try.checked os 3 .any (Rows.setofTellsSpec.pre6 enc Try.prog Try.f3 Rows.setofTellsRow.domain false) (Rows.setofTellsSpec.post enc Try.prog Try.f3 false true false false) := by
  refine returnsInHanded_of_change (C := Try.checked) own started (by kernel_rfl) Try.func3
    (ChangeSpec.witness6 (enc := enc) (C := Try.checked) false ⟨#[], #[.string ⟨#[]⟩, .string ⟨#[]⟩, .slice none 0 0], []⟩ 8 (by kernel_rfl) (by kernel_rfl) (by kernel_rfl) (by kernel_rfl)) ?_
  intro W base args ds gs before hval0 hW hcnd _
  have hval : ∀ (j : Nat) t v, Try.f3.params[j]? = some t → args[j]? = some v → Value.okWide Try.prog W .any base t v := hval0
  have hW' := hW
  obtain ⟨p, q, hA0, hV, rfl, hfz, hnd⟩ := hW
  have hA : DataW.TrodAll enc Try.prog W 0 (fun _ => true) true Try.f3.params.toList args.toList ds p := hA0
  rw [Try.params3] at hA hval
  obtain ⟨v0, vs0, d0, ds0, p0, q0, hargs, rfl, rfl, h0, r0⟩ := trodAll_cons hA
  obtain ⟨v1, vs1, d1, ds1, p1, q1, rfl, rfl, rfl, h1, r1⟩ := trodAll_cons r0
  obtain ⟨v2, vs2, d2, ds2, p2, q2, rfl, rfl, rfl, h2, r2⟩ := trodAll_cons r1
  obtain ⟨rfl, rfl, rfl⟩ := trodAll_nil r2
  obtain rfl : args = #[v0, v1, v2] := by cases args; simp_all
  obtain ⟨rfl, rfl⟩ := trodVars_none hV
  obtain ⟨a0, rfl, rfl, rfl, w0⟩ := Go.ChangeMaps.open_string Try.underlying9 (hval 0 9 v0 rfl rfl) h0
  obtain ⟨a1, rfl, rfl, rfl, w1⟩ := Go.ChangeMaps.open_string Try.underlying9 (hval 1 9 v1 rfl rfl) h1
  obtain ⟨a2, n2, c2, rfl⟩ := okWide_slice Try.underlying22 (hval 2 22 v2 rfl rfl)
  have h2k := h2
  obtain ⟨fuel2, hf2⟩ := h2
  have hlt2 : ∀ x ∈ p2, x.block < W.heap.size := fun x hx => by simpa using hW'.lt x (by simp [hx])
  obtain ⟨x2, lA2, lN2, lX2⟩ := strs_arg hf2 hlt2
  clear hA0 hval0
  simp only [List.append_nil] at hW'
  refine (walk W a0 a1 a2 n2 c2 x2 w0 w1 lA2 lN2 lX2).mono fun e W' ⟨he, hg⟩ => ?_
  subst he
  exact ⟨_, rfl, _, _, _, _, _, [], hW', (trodAll_cons_mk (shut_bool Try.underlying4 _) trodAll_mk0), (trodAll_cons_mk (Go.ChangeMaps.shut_string Try.underlying9 w0) (trodAll_cons_mk (Go.ChangeMaps.shut_string Try.underlying9 w1) (trodAll_cons_mk (Below.trod laidOut (by kernel_rfl) (of_decide_eq_true (by kernel_rfl)) h2k hg hlt2) trodAll_mk0))), rfl, hg.frame _, fun h => by cases h⟩

set_option maxRecDepth 100000 in
theorem over : Rows.setofTellsRow.holds Try.pinned (OpenSpec.ofChange Rows.setofTellsSpec) :=
  OpenClaim.holds_of_wide 3 Try.f3 rfl rfl rfl rfl rfl rfl rfl ⟨rfl, rfl, rfl, rfl, rfl⟩ rfl rfl rfl rfl rfl (by kernel_rfl) Try.func3 (by kernel_rfl)
    (of_decide_eq_true (by kernel_rfl)) (by unfold Func.isWrapper; first | (rw [if_pos (by decide +kernel)]; kernel_rfl) | (rw [if_neg (by decide +kernel)]; exact ⟨rfl, rfl⟩))
    (fun os started H enc _ => lifted os started H enc)

theorem proved : Rows.SetofTellsSaid :=
  over

end Go.Proofs.Ytcjdhnggddljbaa.setofTells
