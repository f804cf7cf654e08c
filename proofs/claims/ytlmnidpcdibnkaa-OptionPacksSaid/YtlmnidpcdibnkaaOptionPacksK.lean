/- The law OptionPacks: any options are packed, any signs unpacked, as the document says; no conditions. -/
import Derived.Test.YtlmnidpcdibnkaaRows
import Derived.WalkKit
import Derived.ProofKit
import Derived.OpenShut
import Derived.Lib.Hide
import Derived.Test.YtlmnidpcdibnkaaPk19
namespace Go.Proofs.Ytlmnidpcdibnkaa.optionPacks
open Go.ChangeShapes Go.WideShapes Go.ChangeAt Go.RowKit
open Opt

set_option maxRecDepth 100000 in
set_option maxHeartbeats 8000000 in
theorem core (w : World) (A : Option Addr) (n c : Nat) (l L : List P2) (s : ByteArray) (m : Int) (hx : OptsS w (.slice A n c) l) (l3 : s.size ≤ 2000) (X : ByteArray) (N E K G : Int)
    (c0 : RdO 31 l (fun x => #[x]) (.bool true)) (cT : CallsT l) (c1 : RdO 32 l (fun x => #[x]) (.tuple #[.string X, .int .i64 N, .int .i64 E])) (c2 : RdO 34 l (fun x => #[x]) (.tuple #[.string X, .int .i64 N, .int .i64 E]))
    (c3 : MkO 35 #[.string s, .int .i64 m] L K G) (c4 : MkO 36 #[.string s, .int .i64 m] L K G) (cE : CallsE L) :
    Calls Try.prog 7 #[.slice A n c, .string s, .int .i64 m] w fun x w' => x = .returned (.bool true) ∧ Since w w' := by
  have HS := Lib.hid (Since.refl w)
  have HX := Lib.hid hx
  have t3 : decide ((2000 : Int) < (s.size : Int)) = false := decide_eq_false (by omega)
  have s1 := str_eq_t (rfl : X = X)
  have cA := awake_mak
  clear hx
  go_enter Try.func7, Try.ntmps7
  go_wp2_with fail
  refine (c0.calls0 HX.out) ?_
  intro w1 h1
  replace HX := Lib.hid (HX.out.since (by first | exact h1 | exact (Since.alloc (Since.refl _) _).step h1 | exact (Since.alloc (Since.alloc (Since.refl _) _) _).step h1 | exact (Since.drew (Since.refl _)).step h1 | exact (Since.alloc (Since.alloc (Since.alloc (Since.refl _) _) _) _).step h1))
  replace HS := Lib.hid (HS.out.step (by first | exact h1 | exact (Since.alloc (Since.refl _) _).step h1 | exact (Since.alloc (Since.alloc (Since.refl _) _) _).step h1 | exact (Since.drew (Since.refl _)).step h1 | exact (Since.alloc (Since.alloc (Since.alloc (Since.refl _) _) _) _).step h1))
  clear h1
  go_wp2_with fail
  refine (cT.calls0 HX.out) ?_
  intro v2 w2 hv2 h2
  have HV2 := Lib.hid hv2
  clear hv2
  replace HX := Lib.hid (HX.out.since (by first | exact h2 | exact (Since.alloc (Since.refl _) _).step h2 | exact (Since.alloc (Since.alloc (Since.refl _) _) _).step h2 | exact (Since.drew (Since.refl _)).step h2 | exact (Since.alloc (Since.alloc (Since.alloc (Since.refl _) _) _) _).step h2))
  replace HS := Lib.hid (HS.out.step (by first | exact h2 | exact (Since.alloc (Since.refl _) _).step h2 | exact (Since.alloc (Since.alloc (Since.refl _) _) _).step h2 | exact (Since.drew (Since.refl _)).step h2 | exact (Since.alloc (Since.alloc (Since.alloc (Since.refl _) _) _) _).step h2))
  clear h2
  go_wp2_with fail
  refine (c1.calls0 HV2.out) ?_
  intro w3 h3
  replace HX := Lib.hid (HX.out.since (by first | exact h3 | exact (Since.alloc (Since.refl _) _).step h3 | exact (Since.alloc (Since.alloc (Since.refl _) _) _).step h3 | exact (Since.drew (Since.refl _)).step h3 | exact (Since.alloc (Since.alloc (Since.alloc (Since.refl _) _) _) _).step h3))
  replace HS := Lib.hid (HS.out.step (by first | exact h3 | exact (Since.alloc (Since.refl _) _).step h3 | exact (Since.alloc (Since.alloc (Since.refl _) _) _).step h3 | exact (Since.drew (Since.refl _)).step h3 | exact (Since.alloc (Since.alloc (Since.alloc (Since.refl _) _) _) _).step h3))
  clear h3
  go_wp2_with fail
  refine (c2.calls0 HX.out) ?_
  intro w4 h4
  replace HS := Lib.hid (HS.out.step (by first | exact h4 | exact (Since.alloc (Since.refl _) _).step h4 | exact (Since.alloc (Since.alloc (Since.refl _) _) _).step h4 | exact (Since.drew (Since.refl _)).step h4 | exact (Since.alloc (Since.alloc (Since.alloc (Since.refl _) _) _) _).step h4))
  clear h4
  go_wp2_with fail
  refine (c3.calls0) ?_
  intro v5 w5 hv5 h5
  have HV5 := Lib.hid hv5
  clear hv5
  replace HS := Lib.hid (HS.out.step (by first | exact h5 | exact (Since.alloc (Since.refl _) _).step h5 | exact (Since.alloc (Since.alloc (Since.refl _) _) _).step h5 | exact (Since.drew (Since.refl _)).step h5 | exact (Since.alloc (Since.alloc (Since.alloc (Since.refl _) _) _) _).step h5))
  clear h5
  go_wp2_with fail
  refine (c4.calls0) ?_
  intro v6 w6 hv6 h6
  have HV6 := Lib.hid hv6
  clear hv6
  replace HV5 := Lib.hid (HV5.out.since (by first | exact h6 | exact (Since.alloc (Since.refl _) _).step h6 | exact (Since.alloc (Since.alloc (Since.refl _) _) _).step h6 | exact (Since.drew (Since.refl _)).step h6 | exact (Since.alloc (Since.alloc (Since.alloc (Since.refl _) _) _) _).step h6))
  replace HS := Lib.hid (HS.out.step (by first | exact h6 | exact (Since.alloc (Since.refl _) _).step h6 | exact (Since.alloc (Since.alloc (Since.refl _) _) _).step h6 | exact (Since.drew (Since.refl _)).step h6 | exact (Since.alloc (Since.alloc (Since.alloc (Since.refl _) _) _) _).step h6))
  clear h6
  go_wp2_with fail
  refine (cE.calls0 HV5.out HV6.out) ?_
  intro w7 h7
  replace HS := Lib.hid (HS.out.step (by first | exact h7 | exact (Since.alloc (Since.refl _) _).step h7 | exact (Since.alloc (Since.alloc (Since.refl _) _) _).step h7 | exact (Since.drew (Since.refl _)).step h7 | exact (Since.alloc (Since.alloc (Since.alloc (Since.refl _) _) _) _).step h7))
  clear h7
  go_wp2_with fail
  refine (cA.calls0) ?_
  intro w8 h8
  replace HS := Lib.hid (HS.out.step (by first | exact h8 | exact (Since.alloc (Since.refl _) _).step h8 | exact (Since.alloc (Since.alloc (Since.refl _) _) _).step h8 | exact (Since.drew (Since.refl _)).step h8 | exact (Since.alloc (Since.alloc (Since.alloc (Since.refl _) _) _) _).step h8))
  clear h8
  go_wp2_with fail
  go_ret
  exact ⟨rfl, HS.out⟩
set_option maxRecDepth 100000 in
set_option maxHeartbeats 4000000 in
theorem core_big (w : World) (A : Option Addr) (n c : Nat) (l : List P2) (s : ByteArray) (m : Int) (hx : OptsS w (.slice A n c) l) (q : Bool) (hq : q = false ∨ 2000 < s.size)
    (c0 : RdO 31 l (fun x => #[x]) (.bool q)) :
    Calls Try.prog 7 #[.slice A n c, .string s, .int .i64 m] w fun x w' => x = .returned (.bool true) ∧ Since w w' := by
  have HS := Lib.hid (Since.refl w)
  have HX := Lib.hid hx
  have cA := awake_mak
  clear hx
  cases q with
  | false =>
    clear hq
    go_enter Try.func7, Try.ntmps7
    go_wp2_with fail
    refine (c0.calls0 HX.out) ?_
    intro w1 h1
    replace HX := Lib.hid (HX.out.since (by first | exact h1 | exact (Since.alloc (Since.refl _) _).step h1 | exact (Since.alloc (Since.alloc (Since.refl _) _) _).step h1 | exact (Since.drew (Since.refl _)).step h1 | exact (Since.alloc (Since.alloc (Since.alloc (Since.refl _) _) _) _).step h1))
    replace HS := Lib.hid (HS.out.step (by first | exact h1 | exact (Since.alloc (Since.refl _) _).step h1 | exact (Since.alloc (Since.alloc (Since.refl _) _) _).step h1 | exact (Since.drew (Since.refl _)).step h1 | exact (Since.alloc (Since.alloc (Since.alloc (Since.refl _) _) _) _).step h1))
    clear h1
    go_wp2_with fail
    refine (cA.calls0) ?_
    intro w8 h8
    replace HS := Lib.hid (HS.out.step (by first | exact h8 | exact (Since.alloc (Since.refl _) _).step h8 | exact (Since.alloc (Since.alloc (Since.refl _) _) _).step h8 | exact (Since.drew (Since.refl _)).step h8 | exact (Since.alloc (Since.alloc (Since.alloc (Since.refl _) _) _) _).step h8))
    clear h8
    go_wp2_with fail
    go_ret
    exact ⟨rfl, HS.out⟩
  | true =>
    have t3 : decide ((2000 : Int) < (s.size : Int)) = true := decide_eq_true (by rcases hq with h | h; cases h; omega)
    clear hq
    go_enter Try.func7, Try.ntmps7
    go_wp2_with fail
    refine (c0.calls0 HX.out) ?_
    intro w1 h1
    replace HX := Lib.hid (HX.out.since (by first | exact h1 | exact (Since.alloc (Since.refl _) _).step h1 | exact (Since.alloc (Since.alloc (Since.refl _) _) _).step h1 | exact (Since.drew (Since.refl _)).step h1 | exact (Since.alloc (Since.alloc (Since.alloc (Since.refl _) _) _) _).step h1))
    replace HS := Lib.hid (HS.out.step (by first | exact h1 | exact (Since.alloc (Since.refl _) _).step h1 | exact (Since.alloc (Since.alloc (Since.refl _) _) _).step h1 | exact (Since.drew (Since.refl _)).step h1 | exact (Since.alloc (Since.alloc (Since.alloc (Since.refl _) _) _) _).step h1))
    clear h1
    go_wp2_with fail
    refine (cA.calls0) ?_
    intro w8 h8
    replace HS := Lib.hid (HS.out.step (by first | exact h8 | exact (Since.alloc (Since.refl _) _).step h8 | exact (Since.alloc (Since.alloc (Since.refl _) _) _).step h8 | exact (Since.drew (Since.refl _)).step h8 | exact (Since.alloc (Since.alloc (Since.alloc (Since.refl _) _) _) _).step h8))
    clear h8
    go_wp2_with fail
    go_ret
    exact ⟨rfl, HS.out⟩
set_option maxRecDepth 100000 in
theorem walk (w : World) (A : Option Addr) (n c : Nat) (l : List P2) (s : ByteArray) (m : Int) (hx : OptsS w (.slice A n c) l) (_hn : n = l.length) (_hl : ∀ p ∈ l, p.1.size ≤ maxLen ∧ p.2.size ≤ maxLen) (_w1 : s.size ≤ maxLen) (w2 : (Lit.int .i64 m).wf = true) :
    Calls Try.prog 7 #[.slice A n c, .string s, .int .i64 m] w fun e w' => e = .returned (.bool true) ∧ Below w.heap.size w w' := by
  have hm := i64_of_wf w2
  by_cases hb : smallB l = false ∨ 2000 < s.size
  · exact core_big w A n c l s m hx _ hb (small_rd l _ rfl)
  · have hsm : smallB l = true := by cases h : smallB l with | true => rfl | false => exact absurd (Or.inl h) hb
    obtain ⟨h1, h2⟩ := smallB_spec l hsm
    exact core w A n c l _ s m hx (by omega) _ _ _ _ _ (small_rd l true hsm.symm) (fun w x hx => theirs_rd l (by omega) w x hx) (pack_any l (by omega) h2) (rpack_any l (by omega) h2)
      (unpack_any s (by omega) m _ _ _ rfl rfl rfl) (runpack_any s (by omega) m hm) (fun w x y hx hy => same_rd _ w x y hx hy)

set_option maxRecDepth 100000 in
theorem own : ownKnob Try.prog.godebug = none := by kernel_rfl
set_option maxRecDepth 100000 in
theorem laidOut : laidOutB Try.prog = true := by kernel_rfl

set_option maxRecDepth 100000 in
theorem lifted (os : Os) (started : os.Started) (H : Type) (enc : TypeId × Value → H) :
    ReturnsInHanded {} Try.checked os 7 .any (Rows.optionPacksSpec.pre6 enc Try.prog Try.f7 Rows.optionPacksRow.domain false) (Rows.optionPacksSpec.post enc Try.prog Try.f7 false true false false) := by
  refine returnsInHanded_of_change (C := Try.checked) own started (by kernel_rfl) Try.func7
    (ChangeSpec.witness6 (enc := enc) (C := Try.checked) false ⟨#[], #[.slice none 0 0, .string ⟨#[]⟩, .int .i64 0], []⟩ 8 (by kernel_rfl) (by kernel_rfl) (by kernel_rfl) (by kernel_rfl)) ?_
  intro W base args ds gs before hval0 hW hcnd _
  have hval : ∀ (j : Nat) t v, Try.f7.params[j]? = some t → args[j]? = some v → Value.okWide Try.prog W .any base t v := hval0
  have hW' := hW
  obtain ⟨p, q, hA0, hV, rfl, hfz, hnd⟩ := hW
  have hA : DataW.TrodAll enc Try.prog W 0 (fun _ => true) true Try.f7.params.toList args.toList ds p := hA0
  rw [Try.params7] at hA hval
  obtain ⟨v0, vs0, d0, ds0, p0, q0, hargs, rfl, rfl, h0, r0⟩ := trodAll_cons hA
  obtain ⟨v1, vs1, d1, ds1, p1, q1, rfl, rfl, rfl, h1, r1⟩ := trodAll_cons r0
  obtain ⟨v2, vs2, d2, ds2, p2, q2, rfl, rfl, rfl, h2, r2⟩ := trodAll_cons r1
  obtain ⟨rfl, rfl, rfl⟩ := trodAll_nil r2
  obtain rfl : args = #[v0, v1, v2] := by cases args; simp_all
  obtain ⟨rfl, rfl⟩ := trodVars_none hV
  obtain ⟨a0, n0, c0, rfl⟩ := okWide_slice Try.underlying56 (hval 0 56 v0 rfl rfl)
  have h0k := h0
  obtain ⟨fuel0, hf0⟩ := h0
  have hlt0 : ∀ x ∈ p0, x.block < W.heap.size := fun x hx => by simpa using hW'.lt x (by simp [hx])
  obtain ⟨x0, lA0, lN0, lX0⟩ := opts_arg hf0 hlt0
  obtain ⟨a1, rfl, rfl, rfl, w1⟩ := Go.ChangeMaps.open_string Try.underlying9 (hval 1 9 v1 rfl rfl) h1
  obtain ⟨a2, rfl, rfl, rfl, w2⟩ := open_int Try.underlying3 (hval 2 3 v2 rfl rfl) h2
  clear hA0 hval0
  simp only [List.append_nil] at hW'
  refine (walk W a0 n0 c0 x0 a1 a2 lA0 lN0 lX0 w1 w2).mono fun e W' ⟨he, hg⟩ => ?_
  subst he
  exact ⟨_, rfl, _, _, _, _, _, [], hW', (trodAll_cons_mk (shut_bool Try.underlying4 _) trodAll_mk0), (trodAll_cons_mk (Below.trod laidOut (by kernel_rfl) (of_decide_eq_true (by kernel_rfl)) h0k hg hlt0) (trodAll_cons_mk (Go.ChangeMaps.shut_string Try.underlying9 w1) (trodAll_cons_mk (shut_int Try.underlying3 w2) trodAll_mk0))), rfl, hg.frame _, fun h => by cases h⟩

set_option maxRecDepth 100000 in
theorem over : Rows.optionPacksRow.holds Try.pinned (OpenSpec.ofChange Rows.optionPacksSpec) :=
  OpenClaim.holds_of_wide 7 Try.f7 rfl rfl rfl rfl rfl rfl rfl ⟨rfl, rfl, rfl, rfl, rfl⟩ rfl rfl rfl rfl rfl (by kernel_rfl) Try.func7 (by kernel_rfl)
    (of_decide_eq_true (by kernel_rfl)) (by unfold Func.isWrapper; first | (rw [if_pos (by decide +kernel)]; kernel_rfl) | (rw [if_neg (by decide +kernel)]; exact ⟨rfl, rfl⟩))
    (fun os started H enc _ => lifted os started H enc)

theorem proved : Rows.OptionPacksSaid :=
  over

end Go.Proofs.Ytlmnidpcdibnkaa.optionPacks
