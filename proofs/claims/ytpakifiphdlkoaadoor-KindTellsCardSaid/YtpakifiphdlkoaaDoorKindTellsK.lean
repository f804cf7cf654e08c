/- The law KindTells: what there is to say of any kind is as the document says; no conditions. -/
import Derived.Test.YtpakifiphdlkoaaDoorRows
import Derived.WalkKit
import Derived.ProofKit
import Derived.OpenShut
import Derived.Lib.Hide
import Derived.Lay
import Derived.SevenTiedAt
import Derived.LaidOnce
import Derived.LaidMore
import Derived.Stop.Joined
import Derived.Test.YtpakifiphdlkoaaDoorTie
import Derived.Test.YtpakifiphdlkoaaDoorCards
import Derived.Test.YtpakifiphdlkoaaDoorKx2
namespace Go.Proofs.YtpakifiphdlkoaaDoor.kindTells
open Go.ChangeShapes Go.WideShapes Go.ChangeAt Go.RowKit
open Kind


set_option maxRecDepth 100000 in
set_option maxHeartbeats 4000000 in
theorem core (w : World) (hT : Tab2 w) (no cu si : Int) (A0 : Option Addr) (n d0 : Nat) (a : List Int) (s : ByteArray) (ha : IntsS w (.slice A0 n d0) a) (l0 : n ≤ 60) (l1 : s.size ≤ 100)
    (x1 x2 M Z C : Int) (q1 q2 : Bool) (X L : ByteArray) (xs : List Int)
    (c1 : KRdI3 Tabs 27 a cu si (.tuple #[.int .i64 x1, .bool q1])) (c2 : RdI3 28 a cu si (.tuple #[.int .i64 x1, .bool q1]))
    (c3 : KMk Tab2 29 #[.string s, .int .i64 si] (.tuple #[.int .i64 x2, .bool q2])) (c4 : Ret 30 #[.string s, .int .i64 si] (.tuple #[.int .i64 x2, .bool q2]))
    (c5 : KMk Tab2 31 #[.string s] (.int .i64 M)) (c6 : Ret 32 #[.string s] (.int .i64 M))
    (c7 : KMk Tab2 33 #[.int .i64 no] (.string X)) (c8 : Ret 34 #[.int .i64 no] (.string X))
    (c9 : KMk Tab2 35 #[.int .i64 no] (.int .i64 Z)) (c10 : Ret 36 #[.int .i64 no] (.int .i64 Z))
    (c11 : KMk Tab2 37 #[.int .i64 no] (.string L)) (c12 : Ret 38 #[.int .i64 no] (.string L))
    (c13 : KMk Tab2 39 #[.int .i64 no] (.int .i64 C)) (c14 : Ret 40 #[.int .i64 no] (.int .i64 C))
    (c15 : Curve.KMkI Tabs 41 #[.int .i64 no] xs) (c16 : Curve.KMkI Curve.KAll 42 #[.int .i64 no] xs) (c17 : Oid.RdII 19 xs xs (.bool true)) :
    Calls Tryd.prog 5 #[.int .i64 no, .slice A0 n d0, .int .i64 cu, .int .i64 si, .string s] w fun x w' => x = .returned (.bool true) ∧ Since w w' := by
  have HS := Lib.hid (Since.refl w)
  have HT := Lib.hid hT
  have HA := Lib.hid ha
  have t1 : decide ((60 : Int) < (n : Int)) = false := decide_eq_false (by omega)
  have t2 : decide ((100 : Int) < (s.size : Int)) = false := decide_eq_false (by omega)
  have t5 : (X.toList == X.toList) = true := beq_self_eq_true _
  have t6 : (L.toList == L.toList) = true := beq_self_eq_true _
  have cA := awake_k
  clear ha hT
  cases q1
  all_goals cases q2
  all_goals
    go_enter Tryd.func5, Tryd.ntmps5
    go_wp2_with fail
    refine (c1.calls0 HA.out HT.out.1) ?_
    intro w1 h1
    replace HA := Lib.hid (HA.out.since (by first | exact h1 | exact (Since.alloc (Since.refl _) _).step h1 | exact (Since.alloc (Since.alloc (Since.refl _) _) _).step h1 | exact (Since.drew (Since.refl _)).step h1 | exact (Since.alloc (Since.alloc (Since.alloc (Since.refl _) _) _) _).step h1))
    replace HT := Lib.hid (HT.out.since (by first | exact h1 | exact (Since.alloc (Since.refl _) _).step h1 | exact (Since.alloc (Since.alloc (Since.refl _) _) _).step h1 | exact (Since.drew (Since.refl _)).step h1 | exact (Since.alloc (Since.alloc (Since.alloc (Since.refl _) _) _) _).step h1))
    replace HS := Lib.hid (HS.out.step (by first | exact h1 | exact (Since.alloc (Since.refl _) _).step h1 | exact (Since.alloc (Since.alloc (Since.refl _) _) _).step h1 | exact (Since.drew (Since.refl _)).step h1 | exact (Since.alloc (Since.alloc (Since.alloc (Since.refl _) _) _) _).step h1))
    clear h1
    go_wp2_with fail
    refine (c2.calls0 HA.out) ?_
    intro w2 h2
    replace HT := Lib.hid (HT.out.since (by first | exact h2 | exact (Since.alloc (Since.refl _) _).step h2 | exact (Since.alloc (Since.alloc (Since.refl _) _) _).step h2 | exact (Since.drew (Since.refl _)).step h2 | exact (Since.alloc (Since.alloc (Since.alloc (Since.refl _) _) _) _).step h2))
    replace HS := Lib.hid (HS.out.step (by first | exact h2 | exact (Since.alloc (Since.refl _) _).step h2 | exact (Since.alloc (Since.alloc (Since.refl _) _) _).step h2 | exact (Since.drew (Since.refl _)).step h2 | exact (Since.alloc (Since.alloc (Since.alloc (Since.refl _) _) _) _).step h2))
    clear h2
    go_wp2_with fail
    refine (c3.calls0 HT.out) ?_
    intro w3 h3
    replace HT := Lib.hid (HT.out.since (by first | exact h3 | exact (Since.alloc (Since.refl _) _).step h3 | exact (Since.alloc (Since.alloc (Since.refl _) _) _).step h3 | exact (Since.drew (Since.refl _)).step h3 | exact (Since.alloc (Since.alloc (Since.alloc (Since.refl _) _) _) _).step h3))
    replace HS := Lib.hid (HS.out.step (by first | exact h3 | exact (Since.alloc (Since.refl _) _).step h3 | exact (Since.alloc (Since.alloc (Since.refl _) _) _).step h3 | exact (Since.drew (Since.refl _)).step h3 | exact (Since.alloc (Since.alloc (Since.alloc (Since.refl _) _) _) _).step h3))
    clear h3
    go_wp2_with fail
    refine (c4.calls) ?_
    go_wp2_with fail
    refine (c5.calls0 HT.out) ?_
    intro w5 h5
    replace HT := Lib.hid (HT.out.since (by first | exact h5 | exact (Since.alloc (Since.refl _) _).step h5 | exact (Since.alloc (Since.alloc (Since.refl _) _) _).step h5 | exact (Since.drew (Since.refl _)).step h5 | exact (Since.alloc (Since.alloc (Since.alloc (Since.refl _) _) _) _).step h5))
    replace HS := Lib.hid (HS.out.step (by first | exact h5 | exact (Since.alloc (Since.refl _) _).step h5 | exact (Since.alloc (Since.alloc (Since.refl _) _) _).step h5 | exact (Since.drew (Since.refl _)).step h5 | exact (Since.alloc (Since.alloc (Since.alloc (Since.refl _) _) _) _).step h5))
    clear h5
    go_wp2_with fail
    refine (c6.calls) ?_
    go_wp2_with fail
    refine (c7.calls0 HT.out) ?_
    intro w7 h7
    replace HT := Lib.hid (HT.out.since (by first | exact h7 | exact (Since.alloc (Since.refl _) _).step h7 | exact (Since.alloc (Since.alloc (Since.refl _) _) _).step h7 | exact (Since.drew (Since.refl _)).step h7 | exact (Since.alloc (Since.alloc (Since.alloc (Since.refl _) _) _) _).step h7))
    replace HS := Lib.hid (HS.out.step (by first | exact h7 | exact (Since.alloc (Since.refl _) _).step h7 | exact (Since.alloc (Since.alloc (Since.refl _) _) _).step h7 | exact (Since.drew (Since.refl _)).step h7 | exact (Since.alloc (Since.alloc (Since.alloc (Since.refl _) _) _) _).step h7))
    clear h7
    go_wp2_with fail
    refine (c8.calls) ?_
    go_wp2_with fail
    refine (c9.calls0 HT.out) ?_
    intro w9 h9
    replace HT := Lib.hid (HT.out.since (by first | exact h9 | exact (Since.alloc (Since.refl _) _).step h9 | exact (Since.alloc (Since.alloc (Since.refl _) _) _).step h9 | exact (Since.drew (Since.refl _)).step h9 | exact (Since.alloc (Since.alloc (Since.alloc (Since.refl _) _) _) _).step h9))
    replace HS := Lib.hid (HS.out.step (by first | exact h9 | exact (Since.alloc (Since.refl _) _).step h9 | exact (Since.alloc (Since.alloc (Since.refl _) _) _).step h9 | exact (Since.drew (Since.refl _)).step h9 | exact (Since.alloc (Since.alloc (Since.alloc (Since.refl _) _) _) _).step h9))
    clear h9
    go_wp2_with fail
    refine (c10.calls) ?_
    go_wp2_with fail
    refine (c11.calls0 HT.out) ?_
    intro w11 h11
    replace HT := Lib.hid (HT.out.since (by first | exact h11 | exact (Since.alloc (Since.refl _) _).step h11 | exact (Since.alloc (Since.alloc (Since.refl _) _) _).step h11 | exact (Since.drew (Since.refl _)).step h11 | exact (Since.alloc (Since.alloc (Since.alloc (Since.refl _) _) _) _).step h11))
    replace HS := Lib.hid (HS.out.step (by first | exact h11 | exact (Since.alloc (Since.refl _) _).step h11 | exact (Since.alloc (Since.alloc (Since.refl _) _) _).step h11 | exact (Since.drew (Since.refl _)).step h11 | exact (Since.alloc (Since.alloc (Since.alloc (Since.refl _) _) _) _).step h11))
    clear h11
    go_wp2_with fail
    refine (c12.calls) ?_
    go_wp2_with fail
    refine (c13.calls0 HT.out) ?_
    intro w13 h13
    replace HT := Lib.hid (HT.out.since (by first | exact h13 | exact (Since.alloc (Since.refl _) _).step h13 | exact (Since.alloc (Since.alloc (Since.refl _) _) _).step h13 | exact (Since.drew (Since.refl _)).step h13 | exact (Since.alloc (Since.alloc (Since.alloc (Since.refl _) _) _) _).step h13))
    replace HS := Lib.hid (HS.out.step (by first | exact h13 | exact (Since.alloc (Since.refl _) _).step h13 | exact (Since.alloc (Since.alloc (Since.refl _) _) _).step h13 | exact (Since.drew (Since.refl _)).step h13 | exact (Since.alloc (Since.alloc (Since.alloc (Since.refl _) _) _) _).step h13))
    clear h13
    go_wp2_with fail
    refine (c14.calls) ?_
    go_wp2_with fail
    refine (c15.calls0 HT.out.1) ?_
    intro v15 w15 hv15 h15
    have HV15 := Lib.hid hv15
    clear hv15
    replace HT := Lib.hid (HT.out.since (by first | exact h15 | exact (Since.alloc (Since.refl _) _).step h15 | exact (Since.alloc (Since.alloc (Since.refl _) _) _).step h15 | exact (Since.drew (Since.refl _)).step h15 | exact (Since.alloc (Since.alloc (Since.alloc (Since.refl _) _) _) _).step h15))
    replace HS := Lib.hid (HS.out.step (by first | exact h15 | exact (Since.alloc (Since.refl _) _).step h15 | exact (Since.alloc (Since.alloc (Since.refl _) _) _).step h15 | exact (Since.drew (Since.refl _)).step h15 | exact (Since.alloc (Since.alloc (Since.alloc (Since.refl _) _) _) _).step h15))
    clear h15
    go_wp2_with fail
    refine (c16.calls0 trivial) ?_
    intro v16 w16 hv16 h16
    have HV16 := Lib.hid hv16
    clear hv16
    replace HT := Lib.hid (HT.out.since (by first | exact h16 | exact (Since.alloc (Since.refl _) _).step h16 | exact (Since.alloc (Since.alloc (Since.refl _) _) _).step h16 | exact (Since.drew (Since.refl _)).step h16 | exact (Since.alloc (Since.alloc (Since.alloc (Since.refl _) _) _) _).step h16))
    replace HV15 := Lib.hid (HV15.out.since (by first | exact h16 | exact (Since.alloc (Since.refl _) _).step h16 | exact (Since.alloc (Since.alloc (Since.refl _) _) _).step h16 | exact (Since.drew (Since.refl _)).step h16 | exact (Since.alloc (Since.alloc (Since.alloc (Since.refl _) _) _) _).step h16))
    replace HS := Lib.hid (HS.out.step (by first | exact h16 | exact (Since.alloc (Since.refl _) _).step h16 | exact (Since.alloc (Since.alloc (Since.refl _) _) _).step h16 | exact (Since.drew (Since.refl _)).step h16 | exact (Since.alloc (Since.alloc (Since.alloc (Since.refl _) _) _) _).step h16))
    clear h16
    go_wp2_with fail
    refine (c17.calls0 HV15.out HV16.out) ?_
    intro w17 h17
    replace HT := Lib.hid (HT.out.since (by first | exact h17 | exact (Since.alloc (Since.refl _) _).step h17 | exact (Since.alloc (Since.alloc (Since.refl _) _) _).step h17 | exact (Since.drew (Since.refl _)).step h17 | exact (Since.alloc (Since.alloc (Since.alloc (Since.refl _) _) _) _).step h17))
    replace HS := Lib.hid (HS.out.step (by first | exact h17 | exact (Since.alloc (Since.refl _) _).step h17 | exact (Since.alloc (Since.alloc (Since.refl _) _) _).step h17 | exact (Since.drew (Since.refl _)).step h17 | exact (Since.alloc (Since.alloc (Since.alloc (Since.refl _) _) _) _).step h17))
    clear h17
    go_wp2_with fail
    refine (cA.calls0 HT.out) ?_
    intro w18 h18
    replace HS := Lib.hid (HS.out.step (by first | exact h18 | exact (Since.alloc (Since.refl _) _).step h18 | exact (Since.alloc (Since.alloc (Since.refl _) _) _).step h18 | exact (Since.drew (Since.refl _)).step h18 | exact (Since.alloc (Since.alloc (Since.alloc (Since.refl _) _) _) _).step h18))
    clear h18
    go_wp2_with fail
    go_ret
    exact ⟨rfl, HS.out⟩
set_option maxRecDepth 100000 in
set_option maxHeartbeats 4000000 in
theorem core_big (w : World) (hT : Tab2 w) (no cu si : Int) (A0 : Option Addr) (n d0 : Nat) (s : ByteArray) (hl0 : n ≤ 9223372036854775807) (hb : 60 < n ∨ 100 < s.size) :
    Calls Tryd.prog 5 #[.int .i64 no, .slice A0 n d0, .int .i64 cu, .int .i64 si, .string s] w fun x w' => x = .returned (.bool true) ∧ Since w w' := by
  have HS := Lib.hid (Since.refl w)
  have HT := Lib.hid hT
  have cA := awake_k
  clear hT
  by_cases h0 : 60 < n
  · have t1 : decide ((60 : Int) < (n : Int)) = true := decide_eq_true (by omega)
    clear hb
    go_enter Tryd.func5, Tryd.ntmps5
    go_wp2_with fail
    refine (cA.calls0 HT.out) ?_
    intro w18 h18
    replace HS := Lib.hid (HS.out.step (by first | exact h18 | exact (Since.alloc (Since.refl _) _).step h18 | exact (Since.alloc (Since.alloc (Since.refl _) _) _).step h18 | exact (Since.drew (Since.refl _)).step h18 | exact (Since.alloc (Since.alloc (Since.alloc (Since.refl _) _) _) _).step h18))
    clear h18
    go_wp2_with fail
    go_ret
    exact ⟨rfl, HS.out⟩
  · have t1 : decide ((60 : Int) < (n : Int)) = false := decide_eq_false (by omega)
    have t2 : decide ((100 : Int) < (s.size : Int)) = true := decide_eq_true (by omega)
    clear hb
    go_enter Tryd.func5, Tryd.ntmps5
    go_wp2_with fail
    refine (cA.calls0 HT.out) ?_
    intro w18 h18
    replace HS := Lib.hid (HS.out.step (by first | exact h18 | exact (Since.alloc (Since.refl _) _).step h18 | exact (Since.alloc (Since.alloc (Since.refl _) _) _).step h18 | exact (Since.drew (Since.refl _)).step h18 | exact (Since.alloc (Since.alloc (Since.alloc (Since.refl _) _) _) _).step h18))
    clear h18
    go_wp2_with fail
    go_ret
    exact ⟨rfl, HS.out⟩
set_option maxRecDepth 100000 in
theorem walk (w : World) (no : Int) (A0 : Option Addr) (n d0 : Nat) (a : List Int) (cu si : Int) (s : ByteArray) (_w0 : (Lit.int .i64 no).wf = true) (ha : IntsS w (.slice A0 n d0) a) (hn : n = a.length) (_hx : ∀ x ∈ a, (Lit.int .i64 x).wf = true) (_w2 : (Lit.int .i64 cu).wf = true) (_w3 : (Lit.int .i64 si).wf = true) (_w4 : s.size ≤ maxLen) (hT : Tab2 w) :
    Calls Tryd.prog 5 #[.int .i64 no, .slice A0 n d0, .int .i64 cu, .int .i64 si, .string s] w fun e w' => e = .returned (.bool true) ∧ Below w.heap.size w w' := by
  have hl0 := ha.le
  by_cases hbig : 60 < n ∨ 100 < s.size
  · exact core_big w hT no cu si A0 n d0 s (by omega) hbig
  · exact core w hT no cu si A0 n d0 a s ha (by omega) (by omega) _ _ _ _ _ _ _ _ _ _
      (by_rd a cu si _ _ rfl) (rby_rd a _ cu si _ _ (Oid.rtext_rd a _ rfl) rfl) (KMk.t2 (of_k s si _ _ rfl)) (rof_ret s si _ _ rfl) (KMk.t2 (most_k s _ rfl)) (rmost_ret s _ rfl)
      (KMk.t2 (name_k no _ rfl)) (rname_ret no _ rfl) (KMk.t2 (size_k no _ rfl)) (rsize_ret no _ rfl) (KMk.t2 (letter_k no _ rfl)) (rletter_ret no _ rfl) (KMk.t2 (curve_k no _ rfl)) (rcurve_ret no _ rfl)
      (arcs_k no _ rfl) (rarcs_k no _ rfl) (pints_rd _ _ true (decide_eq_true rfl).symm)

set_option maxRecDepth 100000 in
theorem own : ownKnob Tryd.prog.godebug = none := by kernel_rfl
set_option maxRecDepth 100000 in
theorem laidOut : laidOutB Tryd.prog = true := by kernel_rfl

def laidL : List (String × DataW Unit) := [("unicode/utf8.acceptRanges", Rows.laid_unicode_utf8_acceptRanges), ("claviger/curve.lines", Rows.laid_claviger_curve_lines), ("claviger/kind.lines", Rows.laid_claviger_kind_lines), ("unicode/utf8.first", Rows.laid_unicode_utf8_first)]
set_option maxRecDepth 100000 in
theorem lifted (os : Os) (started : os.Started) (H : Type) (enc : TypeId × Value → H) :
    ReturnsInHanded {} Tryd.checked os 5 .any (fun w args => (Rows.kindTellsSpec.pre enc Tryd.prog Tryd.f5 [] false w args ∧ laidMetH Tryd.prog laidL w) ∧ sizedMet enc Tryd.prog Tryd.f5 (OpenSpec.ofChange Rows.kindTellsSpec) false w args)
      (Rows.kindTellsSpec.post enc Tryd.prog Tryd.f5 false true false false) := by
  refine returnsInHanded_of_change_and (C := Tryd.checked) (X := fun w _ => laidMetH Tryd.prog laidL w) (fun _ _ _ hh h => h.of_heap hh) own started (by kernel_rfl) Tryd.func5
    (ChangeSpec.witness_shaped (enc := enc) (C := Tryd.checked) (os := os) (X := fun w _ => laidMetH Tryd.prog laidL w) false (World.laidAll Tryd.prog os laidL) #[.int .i64 0, .slice none 0 0, .int .i64 0, .int .i64 0, .string ⟨#[]⟩] 8 (World.laidAll_os _ _ _) (World.shaped_of_ZipB (by kernel_rfl) (by kernel_rfl)) (by kernel_rfl) (by kernel_rfl) (by kernel_rfl) (by rw [MakeChecks.laidMetH_plain _ _ _ (by kernel_rfl)]; exact laidMet_laidAll _ (by kernel_rfl) (by kernel_rfl))) ?_
  intro W base args ds gs before hval0 hW _ _ hL _
  have hval : ∀ (j : Nat) t v, Tryd.f5.params[j]? = some t → args[j]? = some v → Value.okWide Tryd.prog W .any base t v := hval0
  have hW' := hW
  obtain ⟨p, q, hA0, hV, rfl, hfz, hnd⟩ := hW
  have hA : DataW.TrodAll enc Tryd.prog W 0 (fun _ => true) true Tryd.f5.params.toList args.toList ds p := hA0
  rw [Tryd.params5] at hA hval
  obtain ⟨v0, vs0, d0, ds0, p0, q0, hargs, rfl, rfl, h0, r0⟩ := trodAll_cons hA
  obtain ⟨v1, vs1, d1, ds1, p1, q1, rfl, rfl, rfl, h1, r1⟩ := trodAll_cons r0
  obtain ⟨v2, vs2, d2, ds2, p2, q2, rfl, rfl, rfl, h2, r2⟩ := trodAll_cons r1
  obtain ⟨v3, vs3, d3, ds3, p3, q3, rfl, rfl, rfl, h3, r3⟩ := trodAll_cons r2
  obtain ⟨v4, vs4, d4, ds4, p4, q4, rfl, rfl, rfl, h4, r4⟩ := trodAll_cons r3
  obtain ⟨rfl, rfl, rfl⟩ := trodAll_nil r4
  obtain rfl : args = #[v0, v1, v2, v3, v4] := by cases args; simp_all
  obtain ⟨rfl, rfl⟩ := trodVars_none hV
  obtain ⟨a0, rfl, rfl, rfl, w0⟩ := open_int Tryd.underlying3 (hval 0 3 v0 rfl rfl) h0
  obtain ⟨a1, n1, c1, rfl⟩ := okWide_slice Tryd.underlying22 (hval 1 22 v1 rfl rfl)
  have h1k := h1
  obtain ⟨fuel1, hf1⟩ := h1
  have hlt1 : ∀ x ∈ p1, x.block < W.heap.size := fun x hx => by simpa using hW'.lt x (by simp [hx])
  obtain ⟨x1, hA1, hN1, hX1⟩ := ints_arg Tryd.underlying22 Tryd.underlying3 (by kernel_rfl) hf1 hlt1
  obtain ⟨a2, rfl, rfl, rfl, w2⟩ := open_int Tryd.underlying3 (hval 2 3 v2 rfl rfl) h2
  obtain ⟨a3, rfl, rfl, rfl, w3⟩ := open_int Tryd.underlying3 (hval 3 3 v3 rfl rfl) h3
  obtain ⟨a4, rfl, rfl, rfl, w4⟩ := Go.ChangeMaps.open_string Tryd.underlying9 (hval 4 9 v4 rfl rfl) h4
  clear hA0 hval0
  simp only [List.append_nil] at hW'
  refine (walk W a0 a1 n1 c1 x1 a2 a3 a4 w0 hA1 hN1 hX1 w2 w3 w4 (Kind.tabs4_of hL)).mono fun e W' ⟨he, hg⟩ => ?_
  subst he
  exact ⟨_, rfl, _, _, _, _, _, [], hW', (trodAll_cons_mk (shut_bool Tryd.underlying4 _) trodAll_mk0), (trodAll_cons_mk (shut_int Tryd.underlying3 w0) (trodAll_cons_mk (Below.trod laidOut (by kernel_rfl) (of_decide_eq_true (by kernel_rfl)) h1k hg hlt1) (trodAll_cons_mk (shut_int Tryd.underlying3 w2) (trodAll_cons_mk (shut_int Tryd.underlying3 w3) (trodAll_cons_mk (Go.ChangeMaps.shut_string Tryd.underlying9 w4) trodAll_mk0))))), rfl, hg.frame _, fun h => by cases h⟩

set_option maxRecDepth 100000 in
theorem over : Rows.kindTellsRow.holds Tryd.pinned (OpenSpec.ofChange Rows.kindTellsSpec) :=
  OpenClaim.holds_of_wide 5 Tryd.f5 rfl rfl rfl rfl rfl rfl rfl ⟨rfl, rfl, rfl, rfl, rfl⟩ rfl rfl rfl rfl rfl (by kernel_rfl) Tryd.func5 (by kernel_rfl)
    (of_decide_eq_true (by kernel_rfl)) (by unfold Func.isWrapper; first | (rw [if_pos (by decide +kernel)]; kernel_rfl) | (rw [if_neg (by decide +kernel)]; exact ⟨rfl, rfl⟩))
    (fun os started H enc _ => lifted os started H enc)

set_option maxRecDepth 100000 in
theorem proved : Rows.KindTellsCardSaid :=
  Claim7.holds_tied_plain_at .later [] [.data, .data, .data, .pinned] true Rows.kindTellsCard.stood.harness false
    over (fun _ h => by cases h) (by kernel_rfl) (fun _ h => by cases h) kindTells_row_tie rfl ⟨rfl, rfl⟩ (by kernel_rfl) rfl
    (fun f fn hf hfn => by
      obtain rfl : f = 5 := Option.some.inj ((show Tryd.prog.funcNamed "claviger/clavigerlaw23.KindTells" = some 5 by kernel_rfl).symm.trans hf) |>.symm
      obtain rfl : fn = Tryd.f5 := (Option.some.inj (Tryd.func5.symm.trans hfn)).symm
      exact ⟨by kernel_rfl, fun j t ht => by
        rw [Tryd.params5] at ht
        have hm : t ∈ [3, 22, 3, 3, 9] := by simpa using Array.mem_of_getElem? ht
        have hall : ([3, 22, 3, 3, 9].all fun u => !Tryd.prog.wantsStandIn u) = true := by kernel_rfl
        exact (show Tryd.prog.wantsStandIn t = false by simpa using List.all_eq_true.1 hall t hm)⟩)
    (by kernel_rfl)

end Go.Proofs.YtpakifiphdlkoaaDoor.kindTells
