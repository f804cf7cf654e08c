/- Joined texts. -/
-- PACK: YtgfdomdbjiflmaaDoorSpan
import Derived.Test.YtgfdomdbjiflmaaDoorDk8
import Derived.Laws.Cover3
import Derived.Test.YtgfdomdbjiflmaaDoorDk19
import Derived.Test.YtgfdomdbjiflmaaDoorDk18

/- Package span: a span as a complex number. -/
namespace Go.Proofs.YtgfdomdbjiflmaaDoor
open Go.RowKit
namespace Span
open Flt

theorem is0 : Is 0 0 := by
  have h := fl_is 0 (by decide)
  have e : fl 0 = 0 := by decide +kernel
  rwa [e] at h
theorem is_most : Is 4679241112349573120 65552 := by
  have h := fl_is 65552 (by decide)
  have e : fl 65552 = 4679241112349573120 := by decide +kernel
  rwa [e] at h
set_option maxRecDepth 100000 in
theorem conv_fi (b : Nat) (n : Int) (hb : Is b n) (h : -9223372036854775808 ≤ n ∧ n ≤ 9223372036854775807) (w : World) : (convert 43 3 (.float .f64 b)).run Tryd.prog w = .ok (.int .i64 n) w :=
  run_convert_float_int w 43 3 .f64 .i64 b n (by rw [Tryd.underlying43]; rfl) Tryd.underlying3 (toInt_is b n hb h)
set_option maxRecDepth 100000 in
theorem conv_if (n : Int) (w : World) : (convert 3 43 (.int .i64 n)).run Tryd.prog w = .ok (.float .f64 (fl n)) w := by
  simp [convert, run_underlying Tryd.underlying43, run_underlying Tryd.underlying3, Conv.intToFloat, fl]
theorem cmp_ge (x y : Int) (h : y ≤ x) : (compare x y == .gt || compare x y == .eq) = true := by
  show (compareOfLessAndEq x y == .gt || compareOfLessAndEq x y == .eq) = true
  unfold compareOfLessAndEq
  rw [if_neg (by omega)]
  by_cases h : x = y
  · rw [if_pos h]; rfl
  · rw [if_neg h]; rfl
theorem cmp_ge_f (x y : Int) (h : x < y) : (compare x y == .gt || compare x y == .eq) = false := by
  show (compareOfLessAndEq x y == .gt || compareOfLessAndEq x y == .eq) = false
  unfold compareOfLessAndEq
  rw [if_pos h]; rfl
theorem cmp_le (x y : Int) (h : x ≤ y) : (compare x y == .lt || compare x y == .eq) = true := by
  show (compareOfLessAndEq x y == .lt || compareOfLessAndEq x y == .eq) = true
  unfold compareOfLessAndEq
  by_cases h1 : x < y
  · rw [if_pos h1]; rfl
  · rw [if_neg h1, if_pos (by omega)]; rfl
theorem cmp_le_f (x y : Int) (h : y < x) : (compare x y == .lt || compare x y == .eq) = false := by
  show (compareOfLessAndEq x y == .lt || compareOfLessAndEq x y == .eq) = false
  unfold compareOfLessAndEq
  rw [if_neg (by omega), if_neg (by omega)]; rfl
theorem cmp_eq (x y : Int) : (compare x y == .eq) = decide (x = y) := by
  show (compareOfLessAndEq x y == .eq) = _
  unfold compareOfLessAndEq
  by_cases h : x = y
  · subst h
    rw [if_neg (by omega), if_pos rfl, decide_eq_true rfl]; rfl
  · rw [decide_eq_false h]
    by_cases h1 : x < y
    · rw [if_pos h1]; rfl
    · rw [if_neg h1, if_neg h]; rfl
/-- may two whole numbers be a span? -/
def MayD (a b : Int) : Prop := 0 ≤ a ∧ a ≤ b ∧ b ≤ 65552
instance (a b : Int) : Decidable (MayD a b) := by unfold MayD; infer_instance
/-- a span of whole numbers -/
def Sp (a b : Nat) : Prop := a ≤ b ∧ b ≤ 65552
instance (a b : Nat) : Decidable (Sp a b) := by unfold Sp; infer_instance
theorem Sp.may {a b : Nat} (h : Sp a b) : MayD (a : Int) (b : Int) := by
  obtain ⟨h1, h2⟩ := h
  exact ⟨by omega, by omega, by omega⟩
theorem Sp.isA {a b : Nat} (h : Sp a b) : Is (fl (a : Int)) (a : Int) := fl_is _ (by obtain ⟨h1, h2⟩ := h; omega)
theorem Sp.isB {a b : Nat} (h : Sp a b) : Is (fl (b : Int)) (b : Int) := fl_is _ (by obtain ⟨h1, h2⟩ := h; omega)
/-- a span's value -/
def cx (a b : Nat) : Value := .complex .f64 (fl (a : Int)) (fl (b : Int))
theorem fl0 : fl 0 = 0 := by decide +kernel
set_option maxRecDepth 100000 in
set_option maxHeartbeats 1000000 in
theorem of_yes (a b : Nat) (h : Sp a b) : Ret 103 #[.int .i64 (a : Int), .int .i64 (b : Int)] (.complex .f64 (fl (a : Int)) (fl (b : Int))) := by
  intro w
  obtain ⟨h1, h2⟩ := h
  have v1 := conv_if (a : Int)
  have v2 := conv_if (b : Int)
  generalize fl (a : Int) = A at v1 ⊢
  generalize fl (b : Int) = B at v2 ⊢
  have t1 : decide ((a : Int) < 0) = false := decide_eq_false (by omega)
  have t2 : decide ((65552 : Int) < (b : Int)) = false := decide_eq_false (by omega)
  have t3 : decide ((b : Int) < (a : Int)) = false := decide_eq_false (by omega)
  go_enter Tryd.func103, Tryd.ntmps103
  go_wp2_with fail
  go_ret
  exact ⟨rfl, rfl⟩
set_option maxRecDepth 100000 in
theorem of_no (a b : Int) (h : ¬ MayD a b) : Ret 103 #[.int .i64 a, .int .i64 b] (.complex .f64 0 0) := by
  intro w
  by_cases h1 : a < 0
  · have t1 : decide (a < 0) = true := decide_eq_true h1
    clear h
    go_enter Tryd.func103, Tryd.ntmps103
    go_wp2_with fail
    go_ret
    exact ⟨rfl, rfl⟩
  · have t1 : decide (a < 0) = false := decide_eq_false h1
    by_cases h2 : 65552 < b
    · have t2 : decide (65552 < b) = true := decide_eq_true h2
      clear h
      go_enter Tryd.func103, Tryd.ntmps103
      go_wp2_with fail
      go_ret
      exact ⟨rfl, rfl⟩
    · have t2 : decide (65552 < b) = false := decide_eq_false h2
      have t3 : decide (b < a) = true := decide_eq_true (by
        by_cases h3 : b < a
        · exact h3
        · exact absurd ⟨by omega, by omega, by omega⟩ h)
      clear h
      go_enter Tryd.func103, Tryd.ntmps103
      go_wp2_with fail
      go_ret
      exact ⟨rfl, rfl⟩
/-- the bytes of a span -/
def cutS (s : ByteArray) (a b : Nat) : ByteArray := if b ≤ s.size then bs ((s.data.toList.drop a).take (b - a)) else ⟨#[]⟩
set_option maxRecDepth 100000 in
theorem shift_run (A B C D E : Nat) (h1 : FloatKind.f64.format.add A C = some D) (h2 : FloatKind.f64.format.add B C = some E) (w : World) : (binOp .add 39 (.complex .f64 A B) (.complex .f64 C C)).run Tryd.prog w = .ok (.complex .f64 D E) w :=
  run_complex_sum w .add (Or.inl rfl) 39 .f64 A B C C D E (by
    unfold cSumBits floatBits
    simp only [h1, h2]
    rfl)
/-- how many bytes spans have -/
def total : List (Nat × Nat) → Nat
  | [] => 0
  | p :: l => (p.2 - p.1) + total l
theorem total_snoc (l : List (Nat × Nat)) (p : Nat × Nat) : total (l ++ [p]) = total l + (p.2 - p.1) := by
  induction l with
  | nil => simp [total]
  | cons q l ih => simp [total, ih]; omega
theorem total_le (l : List (Nat × Nat)) (h : ∀ p ∈ l, p.2 ≤ 65552) : total l ≤ 65552 * l.length := by
  induction l with
  | nil => exact Nat.le_refl _
  | cons q l ih =>
    have h1 := h q (List.mem_cons_self)
    have h2 := ih (fun p hp => h p (List.mem_cons_of_mem _ hp))
    simp only [total, List.length_cons]
    omega
/-- v is a slice of spans -/
def SpansS (w : World) (v : Value) (l : List (Nat × Nat)) : Prop := SlR w 1 v l.length (l.map fun p => cx p.1 p.2)
theorem SpansS.form {w : World} {v : Value} {l : List (Nat × Nat)} (h : SpansS w v l) (hn : 0 < l.length) :
    ∃ b o c, v = .slice (some ⟨b, o, none⟩) l.length c ∧ l.length ≤ c ∧ c ≤ maxLen ∧ b < w.heap.size ∧ ∀ i, i < l.length → w.cell? ⟨b, o + i, none⟩ = some (cx (l.getD i (0, 0)).1 (l.getD i (0, 0)).2) := by
  obtain ⟨b, o, c, hv, h1, h2, h3, h4⟩ := SlR.form h hn
  exact ⟨b, o, c, hv, h1, h2, h3, fun i hi => h4 i _ (by simp [List.getD, hi])⟩
theorem one_is : fl 1 = 4607182418800017408 := by decide +kernel
theorem count_step (k T a b : Nat) (h : Sp a b) (hk : k ≤ 100000) (hT : T ≤ 65552 * k) : FloatKind.f64.format.sub (fl (b : Int)) (fl (a : Int)) = some (fl ((b - a : Nat) : Int)) ∧ cSumBits .add .f64 (fl (k : Int)) (fl (T : Int)) 4607182418800017408 (fl ((b - a : Nat) : Int)) = some (fl ((k + 1 : Nat) : Int), fl ((T + (b - a) : Nat) : Int)) := by
  have iA := h.isA
  have iB := h.isB
  obtain ⟨h1, h2⟩ := h
  constructor
  · have h9 := sub_is _ _ _ _ iB iA (by omega) (by omega)
    rw [h9, show (b : Int) - (a : Int) = ((b - a : Nat) : Int) by omega]
  · rw [← one_is]
    unfold cSumBits floatBits
    have e1 := add_is _ _ _ _ (fl_is (k : Int) (by omega)) (fl_is 1 (by decide)) (by omega)
    have e2 := add_is _ _ _ _ (fl_is (T : Int) (by omega)) (fl_is ((b - a : Nat) : Int) (by omega)) (by omega)
    simp only [e1, e2]
    rw [show (k : Int) + 1 = ((k + 1 : Nat) : Int) by omega, show (T : Int) + ((b - a : Nat) : Int) = ((T + (b - a) : Nat) : Int) by omega]
    rfl
set_option maxRecDepth 100000 in
theorem run_fsub (x y r : Nat) (h : FloatKind.f64.format.sub x y = some r) (w : World) : (binOp .sub 43 (.float .f64 x) (.float .f64 y)).run Tryd.prog w = .ok (.float .f64 r) w := run_float_arith w .sub 43 .f64 x y r h
set_option maxRecDepth 100000 in
theorem run_csum (a b c d re im : Nat) (h : cSumBits .add .f64 a b c d = some (re, im)) (w : World) : (binOp .add 39 (.complex .f64 a b) (.complex .f64 c d)).run Tryd.prog w = .ok (.complex .f64 re im) w := run_complex_sum w .add (Or.inl rfl) 39 .f64 a b c d re im h
end Span
end Go.Proofs.YtgfdomdbjiflmaaDoor
