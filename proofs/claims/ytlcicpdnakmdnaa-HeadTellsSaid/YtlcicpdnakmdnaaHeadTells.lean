/- The law HeadTells: any head has the bytes, any bytes begin with the head, that the document says, or why not; no conditions. -/
import Derived.Test.YtlcicpdnakmdnaaRows
import Derived.WalkKit
import Derived.ProofKit
import Derived.OpenShut
import Derived.Lib.Hide
import Derived.Lib.SmallJoins
import Derived.Test.YtlcicpdnakmdnaaHeadAwake
import Derived.Test.YtlcicpdnakmdnaaRefHeadG
import Derived.Laws.StructEq
import Derived.Deep.RegionHeld3
namespace Go.Proofs.Ytlcicpdnakmdnaa.headTells
open Go.ChangeShapes Go.WideShapes Go.ChangeAt Go.RowKit
open Head (cells4 cells4_new)
open RefHead (cells4.alloc)

/-- what stands while the last test is made: three heads, and all that was there before -/
structure PK (w : World) (A B C : Nat) (a0 a1 a2 a3 b0 b1 b2 b3 : Value) (W : World) : Prop where
  since : Since w W
  ca : cells4 W A a0 a1 a2 a3
  cb : cells4 W B b0 b1 b2 b3
  cc : cells4 W C b0 b1 b2 b3
  la : A < W.heap.size
  lb : B < W.heap.size
  lc : C < W.heap.size
theorem pkstep {w W W' : World} {A B C : Nat} {a0 a1 a2 a3 b0 b1 b2 b3 : Value} (hb : Below W.heap.size W W') (h : Hid (PK w A B C a0 a1 a2 a3 b0 b1 b2 b3 W)) : Hid (PK w A B C a0 a1 a2 a3 b0 b1 b2 b3 W') := by
  have h1 := h.out
  have hs := hb.size
  exact Lib.hid ⟨h1.since.step hb, h1.ca.below _ hb h1.la, h1.cb.below _ hb h1.lb, h1.cc.below _ hb h1.lc, Nat.lt_of_lt_of_le h1.la hs, Nat.lt_of_lt_of_le h1.lb hs, Nat.lt_of_lt_of_le h1.lc hs⟩
theorem pkS {w W : World} {A B C : Nat} {a0 a1 a2 a3 b0 b1 b2 b3 : Value} (h : Hid (PK w A B C a0 a1 a2 a3 b0 b1 b2 b3 W)) : Hid (PK w A B C a0 a1 a2 a3 b0 b1 b2 b3 W) ∧ W.cell? ⟨A, 0, none⟩ = some a0 ∧ W.cell? ⟨A, 1, none⟩ = some a1 ∧ W.cell? ⟨A, 2, none⟩ = some a2 ∧ W.cell? ⟨A, 3, none⟩ = some a3 ∧
    W.cell? ⟨B, 0, none⟩ = some b0 ∧ W.cell? ⟨B, 1, none⟩ = some b1 ∧ W.cell? ⟨B, 2, none⟩ = some b2 ∧ W.cell? ⟨B, 3, none⟩ = some b3 ∧
    W.cell? ⟨C, 0, none⟩ = some b0 ∧ W.cell? ⟨C, 1, none⟩ = some b1 ∧ W.cell? ⟨C, 2, none⟩ = some b2 ∧ W.cell? ⟨C, 3, none⟩ = some b3 := by
  have h1 := h.out
  exact ⟨h, h1.ca.1.1, h1.ca.1.2.1, h1.ca.1.2.2.1, h1.ca.1.2.2.2, h1.cb.1.1, h1.cb.1.2.1, h1.cb.1.2.2.1, h1.cb.1.2.2.2, h1.cc.1.1, h1.cc.1.2.1, h1.cc.1.2.2.1, h1.cc.1.2.2.2⟩
theorem pkdrew {w W : World} {A B C : Nat} {a0 a1 a2 a3 b0 b1 b2 b3 : Value} (h : Hid (PK w A B C a0 a1 a2 a3 b0 b1 b2 b3 W)) : Hid (PK w A B C a0 a1 a2 a3 b0 b1 b2 b3 W.drew) :=
  pkstep (Below.drew (Below.refl _ _)) h

set_option maxRecDepth 100000 in
set_option maxHeartbeats 8000000 in
theorem core (c t n : Int) (b : Bool) (s : ByteArray) (hs : s.size ≤ 200) (X : ByteArray) (hX : X.size ≤ 100) (e : Int) (c' t' n' k f : Nat) (b' : Bool)
    (c1 : Mak 10 #[.agg #[.int .i64 c, .int .i64 t, .bool b, .int .i64 n]] (.tuple #[.string X, .int .i64 e]))
    (c2 : Mak 11 #[.agg #[.int .i64 c, .int .i64 t, .bool b, .int .i64 n]] (.tuple #[.string X, .int .i64 e]))
    (c3 : Mak 12 #[.string s] (.tuple #[.agg #[.int .i64 (c' : Int), .int .i64 (t' : Int), .bool b', .int .i64 (n' : Int)], .int .i64 (k : Int), .int .i64 (f : Int)]))
    (c4 : Mak 13 #[.string s] (.tuple #[.agg #[.int .i64 (c' : Int), .int .i64 (t' : Int), .bool b', .int .i64 (n' : Int)], .int .i64 (k : Int), .int .i64 (f : Int)]))
    (c5 : Mak 14 #[.agg #[.int .i64 c, .int .i64 t, .bool b, .int .i64 n]] (.int .i64 (X.size : Int)))
    (c6 : Mak 15 #[.agg #[.int .i64 c, .int .i64 t, .bool b, .int .i64 n]] (.int .i64 (X.size : Int))) (w : World) :
    Calls Try.prog 3 #[.agg #[.int .i64 c, .int .i64 t, .bool b, .int .i64 n], .string s] w fun e w' => e = .returned (.bool true) ∧ Since w w' := by
  have hq := str_eq_t (rfl : X = X)
  go_enter Try.func3, Try.ntmps3
  go_wp2_with fail
  refine c1.calls0 ?_
  intro w1 h1
  have HQ := Lib.hid ((cells4_new w (.int .i64 c) (.int .i64 t) (.bool b) (.int .i64 n) 23).below _ h1 (by simp))
  have H1 : Hid (Since w w1) := Lib.hid (Since.step ((Since.refl w).alloc _) h1)
  have hlt : w.heap.size < w1.heap.size := by have h9 := Below.size h1; simp at h9; omega
  clear h1
  obtain ⟨⟨q0, q1, q2, q3⟩, _⟩ := HQ.out
  go_wp2_with fail
  refine c2.calls0 ?_
  intro w2 h2
  have HQ2 := Lib.hid (HQ.out.below _ h2 hlt)
  have H2 : Hid (Since w w2) := Lib.hid (Since.step H1.out h2)
  have hlt2 : w.heap.size < w2.heap.size := by have h9 := Below.size h2; omega
  clear h2 HQ H1 q0 q1 q2 q3
  go_wp2_with fail
  refine c3.calls0 ?_
  intro w3 h3
  have HQ3 := Lib.hid (HQ2.out.below _ h3 hlt2)
  have H3 : Hid (Since w w3) := Lib.hid (Since.step H2.out h3)
  have hlt3 : w.heap.size < w3.heap.size := by have h9 := Below.size h3; omega
  clear h3 HQ2 H2
  go_wp2_with fail
  refine c4.calls0 ?_
  intro w4 h4
  have HQ4 := Lib.hid ((cells4.alloc HQ3.out hlt3 _).below _ h4 (by simp; omega))
  have HR4 := Lib.hid ((cells4_new w3 (.int .i64 (c' : Int)) (.int .i64 (t' : Int)) (.bool b') (.int .i64 (n' : Int)) 28).below _ h4 (by simp))
  have H4 : Hid (Since w w4) := Lib.hid (Since.step (H3.out.alloc _) h4)
  have hlt4 : w3.heap.size < w4.heap.size := by have h9 := Below.size h4; simp at h9; omega
  clear h4 HQ3 H3
  have hp : Hid (PK w w.heap.size w3.heap.size w4.heap.size (.int .i64 c) (.int .i64 t) (.bool b) (.int .i64 n) (.int .i64 (c' : Int)) (.int .i64 (t' : Int)) (.bool b') (.int .i64 (n' : Int)) (w4.alloc (.cells #[.int .i64 (c' : Int), .int .i64 (t' : Int), .bool b', .int .i64 (n' : Int)] 23))) :=
    Lib.hid ⟨H4.out.alloc _, cells4.alloc HQ4.out (by omega) _, cells4.alloc HR4.out (by omega) _, cells4_new _ _ _ _ _ _, by simp; omega, by simp; omega, by simp⟩
  clear HQ4 HR4 H4
  go_wp2_with fail
  go_region_held3 (fun W => Hid (PK w w.heap.size w3.heap.size w4.heap.size (.int .i64 c) (.int .i64 t) (.bool b) (.int .i64 n) (.int .i64 (c' : Int)) (.int .i64 (t' : Int)) (.bool b') (.int .i64 (n' : Int)) W) ∧ W.cell? ⟨w.heap.size, 0, none⟩ = some (.int .i64 c) ∧ W.cell? ⟨w.heap.size, 1, none⟩ = some (.int .i64 t) ∧ W.cell? ⟨w.heap.size, 2, none⟩ = some (.bool b) ∧ W.cell? ⟨w.heap.size, 3, none⟩ = some (.int .i64 n) ∧
      W.cell? ⟨w3.heap.size, 0, none⟩ = some (.int .i64 (c' : Int)) ∧ W.cell? ⟨w3.heap.size, 1, none⟩ = some (.int .i64 (t' : Int)) ∧ W.cell? ⟨w3.heap.size, 2, none⟩ = some (.bool b') ∧ W.cell? ⟨w3.heap.size, 3, none⟩ = some (.int .i64 (n' : Int)) ∧
      W.cell? ⟨w4.heap.size, 0, none⟩ = some (.int .i64 (c' : Int)) ∧ W.cell? ⟨w4.heap.size, 1, none⟩ = some (.int .i64 (t' : Int)) ∧ W.cell? ⟨w4.heap.size, 2, none⟩ = some (.bool b') ∧ W.cell? ⟨w4.heap.size, 3, none⟩ = some (.int .i64 (n' : Int)))
    (first | exact pkS (by assumption) | exact pkS (pkdrew (by assumption)))
    (first | (go_at_call 14; refine (c5 _).mono ?_; rintro e w5 ⟨rfl, h5⟩; have hp5 := pkstep h5 (by first | assumption | exact pkdrew (by assumption)); clear h5) | (go_at_call 15; refine (c6 _).mono ?_; rintro e w6 ⟨rfl, h6⟩; have hp6 := pkstep h6 (by first | assumption | exact pkdrew (by assumption)); clear h6) | (go_at_call 9; refine (Head.awake_mak _).mono ?_; rintro e w7 ⟨rfl, h7⟩; have hp7 := pkstep h7 (by first | assumption | exact pkdrew (by assumption)); clear h7))
  all_goals
    go_wp2_with fail
    go_ret
    exact ⟨rfl, hp7.out.since⟩

theorem walk (a0_0 a0_1 : Int) (a0_2 : Bool) (a0_3 : Int) (a1 : ByteArray) (w0_0 : (Lit.int .i64 a0_0).wf = true) (w0_1 : (Lit.int .i64 a0_1).wf = true) (w0_3 : (Lit.int .i64 a0_3).wf = true) (w1 : a1.size ≤ maxLen) (w : World) :
    Calls Try.prog 3 #[.agg #[.int .i64 a0_0, .int .i64 a0_1, .bool a0_2, .int .i64 a0_3], .string a1] w fun e w' => e = .returned (.bool true) ∧ Below w.heap.size w w' := by
  unfold maxLen at w1
  by_cases hs : a1.size ≤ 200
  · obtain ⟨⟨c', t', b', n'⟩, k, f, hd⟩ : ∃ h k e, Head.dec a1.data.toList = (h, k, e) := ⟨_, _, _, rfl⟩
    have c3 := Head.dec_mak a1 (by omega) _ rfl
    have c4 := RefHead.rd_mak a1 (by omega) _ rfl
    rw [hd] at c3 c4
    by_cases h : Head.okH a0_0 a0_1 a0_3
    · obtain ⟨i1, i2, i3, i4, i5, i6⟩ := h
      obtain ⟨c, rfl⟩ := Int.eq_ofNat_of_zero_le i1
      obtain ⟨t, rfl⟩ := Int.eq_ofNat_of_zero_le i3
      obtain ⟨n, rfl⟩ := Int.eq_ofNat_of_zero_le i5
      have hl := Head.encL_len c t a0_2 n
      have hX : (bs (Head.encL c t a0_2 n)).size ≤ 100 := by rw [size_bs]; omega
      have c1 := Head.enc_ok c t n a0_2 (by omega) (by omega) (by omega) _ rfl
      have c2 := RefHead.renc_ok c t n a0_2 (by omega) (by omega) (by omega) _ rfl
      exact core _ _ _ a0_2 a1 hs _ hX 0 c' t' n' k f b' c1 c2 c3 c4 (RefHead.psize _ _ _ a0_2 _ _ hX c1) (RefHead.rsize _ _ _ a0_2 _ _ hX c2) w
    · have c1 := Head.enc_no _ _ _ a0_2 h
      have c2 := RefHead.enc_no _ _ _ a0_2 h
      exact core _ _ _ a0_2 a1 hs ⟨#[]⟩ (by decide) 1 c' t' n' k f b' c1 c2 c3 c4 (RefHead.psize _ _ _ a0_2 _ _ (by decide) c1) (RefHead.rsize _ _ _ a0_2 _ _ (by decide) c2) w
  · have H0 := Lib.hid ((Since.refl w).alloc (.cells #[.int .i64 a0_0, .int .i64 a0_1, .bool a0_2, .int .i64 a0_3] 23))
    go_enter Try.func3, Try.ntmps3
    go_wp2_with fail
    refine (Head.awake_mak).calls H0.out ?_
    intro w3 h3
    have H3 := Lib.hid h3
    clear h3
    go_wp2_with fail
    go_ret
    exact ⟨rfl, H3.out⟩

theorem own : ownKnob Try.prog.godebug = none := by kernel_rfl

set_option maxRecDepth 100000 in
theorem lifted (os : Os) (started : os.Started) (H : Type) (enc : TypeId × Value → H) :
    ReturnsInHanded {} Try.checked os 3 .any (Rows.headTellsSpec.pre6 enc Try.prog Try.f3 Rows.headTellsRow.domain false) (Rows.headTellsSpec.post enc Try.prog Try.f3 false true false false) := by
  refine returnsInHanded_of_change (C := Try.checked) own started (by kernel_rfl) Try.func3
    (ChangeSpec.witness6 (enc := enc) (C := Try.checked) false ⟨#[], #[.agg #[.int .i64 0, .int .i64 0, .bool false, .int .i64 0], .string ⟨#[]⟩], []⟩ 8 (by kernel_rfl) (by kernel_rfl) (by kernel_rfl) (by kernel_rfl)) ?_
  intro W base args ds gs before hval0 hW hcnd _
  have hval : ∀ (j : Nat) t v, Try.f3.params[j]? = some t → args[j]? = some v → Value.okWide Try.prog W .any base t v := hval0
  have hW' := hW
  obtain ⟨p, q, hA0, hV, rfl, hfz, hnd⟩ := hW
  have hA : DataW.TrodAll enc Try.prog W 0 (fun _ => true) true Try.f3.params.toList args.toList ds p := hA0
  rw [Try.params3] at hA hval
  obtain ⟨v0, vs0, d0, ds0, p0, q0, hargs, rfl, rfl, h0, r0⟩ := trodAll_cons hA
  obtain ⟨v1, vs1, d1, ds1, p1, q1, rfl, rfl, rfl, h1, r1⟩ := trodAll_cons r0
  obtain ⟨rfl, rfl, rfl⟩ := trodAll_nil r1
  obtain rfl : args = #[v0, v1] := by cases args; simp_all
  obtain ⟨rfl, rfl⟩ := trodVars_none hV
  obtain ⟨c0_0, c0_1, c0_2, c0_3, y0_0, y0_1, y0_2, y0_3, m0, rfl, rfl, rfl, hy0_0, hy0_1, hy0_2, hy0_3⟩ := Go.Joins.open_agg4 Try.underlying23 (by kernel_rfl) (by kernel_rfl) (hval 0 23 v0 rfl rfl) h0
  obtain ⟨a0_0, e0_0, rfl, w0_0⟩ := DataW.trod_int Try.underlying3 hy0_0
  simp only [List.cons.injEq, and_true] at e0_0
  subst e0_0
  obtain ⟨a0_1, e0_1, rfl, w0_1⟩ := DataW.trod_int Try.underlying3 hy0_1
  simp only [List.cons.injEq, and_true] at e0_1
  subst e0_1
  obtain ⟨a0_2, e0_2, rfl⟩ := DataW.trod_bool Try.underlying4 hy0_2
  simp only [List.cons.injEq, and_true] at e0_2
  subst e0_2
  obtain ⟨a0_3, e0_3, rfl, w0_3⟩ := DataW.trod_int Try.underlying3 hy0_3
  simp only [List.cons.injEq, and_true] at e0_3
  subst e0_3
  obtain ⟨a1, rfl, rfl, rfl, w1⟩ := Go.ChangeMaps.open_string Try.underlying9 (hval 1 9 v1 rfl rfl) h1
  clear hA0 hval0
  simp only [List.append_nil] at hW'
  refine (walk a0_0 a0_1 a0_2 a0_3 a1 w0_0 w0_1 w0_3 w1 W).mono fun e W' ⟨he, hg⟩ => ?_
  subst he
  exact ⟨_, rfl, _, _, _, _, _, [], hW', (trodAll_cons_mk (shut_bool Try.underlying4 _) trodAll_mk0), (trodAll_cons_mk (Go.Joins.shut_agg4 (y0 := (.lit (.int .i64 a0_0), [])) (y1 := (.lit (.int .i64 a0_1), [])) (y2 := (.lit (.bool a0_2), [])) (y3 := (.lit (.int .i64 a0_3), [])) Try.underlying23 (by kernel_rfl) (by kernel_rfl) (Go.Joins.field_of_Trod (shut_int Try.underlying3 w0_0) rfl) (Go.Joins.field_of_Trod (shut_int Try.underlying3 w0_1) rfl) (Go.Joins.field_of_Trod (shut_bool Try.underlying4 _) rfl) (Go.Joins.field_of_Trod (shut_int Try.underlying3 w0_3) rfl)) (trodAll_cons_mk (Go.ChangeMaps.shut_string Try.underlying9 w1) trodAll_mk0)), rfl, hg.frame _, fun h => by cases h⟩

theorem over : Rows.headTellsRow.holds Try.pinned (OpenSpec.ofChange Rows.headTellsSpec) :=
  OpenClaim.holds_of_wide 3 Try.f3 rfl rfl rfl rfl rfl rfl rfl ⟨rfl, rfl, rfl, rfl, rfl⟩ rfl rfl rfl rfl rfl (by kernel_rfl) Try.func3 (by kernel_rfl)
    (of_decide_eq_true (by kernel_rfl)) (by unfold Func.isWrapper; first | (rw [if_pos (by decide +kernel)]; kernel_rfl) | (rw [if_neg (by decide +kernel)]; exact ⟨rfl, rfl⟩))
    (fun os started H enc _ => lifted os started H enc)

theorem proved : Rows.HeadTellsSaid :=
  over

end Go.Proofs.Ytlcicpdnakmdnaa.headTells
