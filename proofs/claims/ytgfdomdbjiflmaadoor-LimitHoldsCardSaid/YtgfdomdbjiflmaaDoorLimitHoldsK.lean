/- The law LimitHolds: no blob costs more than it may; costs of two are their sum; no conditions. -/
import Derived.Test.YtgfdomdbjiflmaaDoorRows
import Derived.WalkKit
import Derived.ProofKit
import Derived.OpenShut
import Derived.Lib.Hide
import Derived.Test.YtgfdomdbjiflmaaDoorDk75
import Derived.Test.YtgfdomdbjiflmaaDoorCards
import Derived.Test.YtgfdomdbjiflmaaDoorTie
import Derived.LaidMore
import Derived.SevenTiedAt
import Derived.Stop.Joined
namespace Go.Proofs.YtgfdomdbjiflmaaDoor.limitHolds
open Go.ChangeShapes Go.WideShapes Go.ChangeAt Go.RowKit
open Limit Header Flt

set_option maxRecDepth 100000 in
set_option maxHeartbeats 8000000 in
theorem core_nz (w : World) (kek a b : ByteArray) (f : Int) (l1 : kek.size ≤ 100) (l2 : a.size ≤ 10100) (l3 : b.size ≤ 10100) (X : Int) (F1 F2 G1 G2 A2 B2 : Nat)
    (c1 : KMk KH 23 #[.string kek, .int .i64 f, .string a] (.complex .f64 F1 F2)) (c2 : KMk KH 23 #[.string kek, .int .i64 f, .string b] (.complex .f64 G1 G2))
    (s1 : cSumBits .add .f64 0 0 F1 F2 = some (F1, F2)) (s2 : cSumBits .add .f64 F1 F2 G1 G2 = some (A2, B2))
    (q : Bool) (o1 : (FloatKind.f64.format.order F1 0 == some .eq) = q) (o2 : (FloatKind.f64.format.order F2 0 == some .eq) = false)
    (v1 : ∀ w, (convert 43 3 (.float .f64 F2)).run Tryd.prog w = .ok (.int .i64 (a.size : Int)) w) (v2 : ∀ w, (convert 43 3 (.float .f64 F1)).run Tryd.prog w = .ok (.int .i64 X) w)
    (M : Int) (c3 : Ret 25 #[.int .i64 f, .int .i64 (a.size : Int)] (.int .i64 M)) (t1 : decide (M < X) = false) (t2 : decide ((a.size : Int) + 16 < X) = false)
    (o3 : (FloatKind.f64.format.order A2 A2 == some .eq) = true) (o4 : (FloatKind.f64.format.order B2 B2 == some .eq) = true)
    (C : Ordering) (o5 : FloatKind.f64.format.order F1 0 = some C) (hqc : (q = true ∧ C = .eq) ∨ (q = false ∧ C = .gt)) (hT : KH w) :
    Calls Tryd.prog 5 #[.string kek, .int .i64 f, .string a, .string b] w fun x w' => x = .returned (.bool true) ∧ Since w w' := by
  rcases hqc with ⟨rfl, rfl⟩ | ⟨rfl, rfl⟩
  all_goals
    have t_1 : decide ((100 : Int) < (kek.size : Int)) = false := decide_eq_false (by omega)
    have t_2 : decide ((10100 : Int) < (a.size : Int)) = false := decide_eq_false (by omega)
    have t_3 : decide ((10100 : Int) < (b.size : Int)) = false := decide_eq_false (by omega)
    have b_2 : a.size ≤ 10100 := l2
    clear l1 l2 l3
    have HS := Lib.hid (Since.refl w)
    have HT := Lib.hid hT
    clear hT
    have c9 := awake_k
    go_enter Tryd.func5, Tryd.ntmps5
    go_wp2_with fail
    repeat (first
      | (with_reducible refine c1.calls0 HT.out ?_; intro wz hz; replace HT := Lib.hid (Kp.keep HT.out hz); replace HS := Lib.hid (HS.out.step hz); clear hz; try go_wp2_with fail)
      | (with_reducible refine c2.calls0 HT.out ?_; intro wz hz; replace HT := Lib.hid (Kp.keep HT.out hz); replace HS := Lib.hid (HS.out.step hz); clear hz; try go_wp2_with fail))
    replace HS := Lib.hid (HS.out.alloc (.cells #[.complex .f64 F1 F2, .complex .f64 G1 G2] 39))
    replace HT := Lib.hid (Kp.keep HT.out ((Below.refl _ _).alloc (Nat.le_refl _) (.cells #[.complex .f64 F1 F2, .complex .f64 G1 G2] 39)))
    refine (total_two _ _ 2 _ _ _ _ _ _ _ _ (World.cell?_alloc_new _ _ _ _) (World.cell?_alloc_new _ _ _ _) s1 s2).mono ?_
    rintro e wz ⟨rfl, rfl⟩
    have s3 := fun (W : World) (t : TypeId) => run_complex_sum (P := Tryd.prog) W .add (Or.inl rfl) t .f64 _ _ _ _ _ _ s2
    clear s1 s2
    go_wp2_with fail
    refine (c3).calls ?_
    go_wp2_with fail
    repeat (first
      | (with_reducible refine c9.calls0 HT.out ?_; intro wz hz; replace HT := Lib.hid (Kp.keep HT.out hz); replace HS := Lib.hid (HS.out.step hz); clear hz; try go_wp2_with fail))
    go_ret
    exact ⟨rfl, HS.out⟩
set_option maxRecDepth 100000 in
set_option maxHeartbeats 8000000 in
theorem core_f (w : World) (kek a b : ByteArray) (f : Int) (l1 : kek.size ≤ 100) (l2 : a.size ≤ 10100) (l3 : b.size ≤ 10100) (G1 G2 A2 B2 : Nat)
    (c1 : KMk KH 23 #[.string kek, .int .i64 f, .string a] (.complex .f64 0 0)) (c2 : KMk KH 23 #[.string kek, .int .i64 f, .string b] (.complex .f64 G1 G2))
    (s1 : cSumBits .add .f64 0 0 0 0 = some (0, 0)) (s2 : cSumBits .add .f64 0 0 G1 G2 = some (A2, B2))
    (o3 : (FloatKind.f64.format.order A2 A2 == some .eq) = true) (o4 : (FloatKind.f64.format.order B2 B2 == some .eq) = true) (c3 : Ret 26 #[.int .i64 f, .int .i64 (a.size : Int)] (.bool false)) (hT : KH w) :
    Calls Tryd.prog 5 #[.string kek, .int .i64 f, .string a, .string b] w fun x w' => x = .returned (.bool true) ∧ Since w w' := by
  have o1 : (FloatKind.f64.format.order 0 0 == some .eq) = true := by decide +kernel
  have o5 : FloatKind.f64.format.order 0 0 = some .eq := by decide +kernel
  have t_1 : decide ((100 : Int) < (kek.size : Int)) = false := decide_eq_false (by omega)
  have t_2 : decide ((10100 : Int) < (a.size : Int)) = false := decide_eq_false (by omega)
  have t_3 : decide ((10100 : Int) < (b.size : Int)) = false := decide_eq_false (by omega)
  have b_2 : a.size ≤ 10100 := l2
  clear l1 l2 l3
  have HS := Lib.hid (Since.refl w)
  have HT := Lib.hid hT
  clear hT
  have c9 := awake_k
  go_enter Tryd.func5, Tryd.ntmps5
  go_wp2_with fail
  repeat (first
    | (with_reducible refine c1.calls0 HT.out ?_; intro wz hz; replace HT := Lib.hid (Kp.keep HT.out hz); replace HS := Lib.hid (HS.out.step hz); clear hz; try go_wp2_with fail)
    | (with_reducible refine c2.calls0 HT.out ?_; intro wz hz; replace HT := Lib.hid (Kp.keep HT.out hz); replace HS := Lib.hid (HS.out.step hz); clear hz; try go_wp2_with fail))
  replace HS := Lib.hid (HS.out.alloc (.cells #[.complex .f64 0 0, .complex .f64 G1 G2] 39))
  replace HT := Lib.hid (Kp.keep HT.out ((Below.refl _ _).alloc (Nat.le_refl _) (.cells #[.complex .f64 0 0, .complex .f64 G1 G2] 39)))
  refine (total_two _ _ 2 _ _ _ _ _ _ _ _ (World.cell?_alloc_new _ _ _ _) (World.cell?_alloc_new _ _ _ _) s1 s2).mono ?_
  rintro e wz ⟨rfl, rfl⟩
  have s3 := fun (W : World) (t : TypeId) => run_complex_sum (P := Tryd.prog) W .add (Or.inl rfl) t .f64 _ _ _ _ _ _ s2
  clear s1 s2
  go_wp2_with fail
  refine (c3).calls ?_
  go_wp2_with fail
  skip
  repeat (first
    | (with_reducible refine c9.calls0 HT.out ?_; intro wz hz; replace HT := Lib.hid (Kp.keep HT.out hz); replace HS := Lib.hid (HS.out.step hz); clear hz; try go_wp2_with fail))
  go_ret
  exact ⟨rfl, HS.out⟩
set_option maxRecDepth 100000 in
set_option maxHeartbeats 8000000 in
theorem core_k (w : World) (kek a b : ByteArray) (f : Int) (l1 : kek.size ≤ 100) (l2 : a.size ≤ 10100) (l3 : b.size ≤ 10100) (G1 G2 A2 B2 : Nat)
    (c1 : KMk KH 23 #[.string kek, .int .i64 f, .string a] (.complex .f64 0 0)) (c2 : KMk KH 23 #[.string kek, .int .i64 f, .string b] (.complex .f64 G1 G2))
    (s1 : cSumBits .add .f64 0 0 0 0 = some (0, 0)) (s2 : cSumBits .add .f64 0 0 G1 G2 = some (A2, B2))
    (o3 : (FloatKind.f64.format.order A2 A2 == some .eq) = true) (o4 : (FloatKind.f64.format.order B2 B2 == some .eq) = true) (c3 : Ret 26 #[.int .i64 f, .int .i64 (a.size : Int)] (.bool true)) (k1 : ((kek.size : Int) != 16) = true) (k2 : ((kek.size : Int) != 24) = true) (k3 : ((kek.size : Int) != 32) = true) (hT : KH w) :
    Calls Tryd.prog 5 #[.string kek, .int .i64 f, .string a, .string b] w fun x w' => x = .returned (.bool true) ∧ Since w w' := by
  have o1 : (FloatKind.f64.format.order 0 0 == some .eq) = true := by decide +kernel
  have o5 : FloatKind.f64.format.order 0 0 = some .eq := by decide +kernel
  have t_1 : decide ((100 : Int) < (kek.size : Int)) = false := decide_eq_false (by omega)
  have t_2 : decide ((10100 : Int) < (a.size : Int)) = false := decide_eq_false (by omega)
  have t_3 : decide ((10100 : Int) < (b.size : Int)) = false := decide_eq_false (by omega)
  have b_2 : a.size ≤ 10100 := l2
  clear l1 l2 l3
  have HS := Lib.hid (Since.refl w)
  have HT := Lib.hid hT
  clear hT
  have c9 := awake_k
  go_enter Tryd.func5, Tryd.ntmps5
  go_wp2_with fail
  repeat (first
    | (with_reducible refine c1.calls0 HT.out ?_; intro wz hz; replace HT := Lib.hid (Kp.keep HT.out hz); replace HS := Lib.hid (HS.out.step hz); clear hz; try go_wp2_with fail)
    | (with_reducible refine c2.calls0 HT.out ?_; intro wz hz; replace HT := Lib.hid (Kp.keep HT.out hz); replace HS := Lib.hid (HS.out.step hz); clear hz; try go_wp2_with fail))
  replace HS := Lib.hid (HS.out.alloc (.cells #[.complex .f64 0 0, .complex .f64 G1 G2] 39))
  replace HT := Lib.hid (Kp.keep HT.out ((Below.refl _ _).alloc (Nat.le_refl _) (.cells #[.complex .f64 0 0, .complex .f64 G1 G2] 39)))
  refine (total_two _ _ 2 _ _ _ _ _ _ _ _ (World.cell?_alloc_new _ _ _ _) (World.cell?_alloc_new _ _ _ _) s1 s2).mono ?_
  rintro e wz ⟨rfl, rfl⟩
  have s3 := fun (W : World) (t : TypeId) => run_complex_sum (P := Tryd.prog) W .add (Or.inl rfl) t .f64 _ _ _ _ _ _ s2
  clear s1 s2
  go_wp2_with fail
  refine (c3).calls ?_
  go_wp2_with fail
  skip
  repeat (first
    | (with_reducible refine c9.calls0 HT.out ?_; intro wz hz; replace HT := Lib.hid (Kp.keep HT.out hz); replace HS := Lib.hid (HS.out.step hz); clear hz; try go_wp2_with fail))
  go_ret
  exact ⟨rfl, HS.out⟩
set_option maxRecDepth 100000 in
theorem big_1 (w : World) (kek a b : ByteArray) (f : Int) (l1 : 100 < kek.size) (hT : KH w) :
    Calls Tryd.prog 5 #[.string kek, .int .i64 f, .string a, .string b] w fun x w' => x = .returned (.bool true) ∧ Since w w' := by
  have t_1 : decide ((100 : Int) < (kek.size : Int)) = decide (100 < kek.size) := by norm_cast
  rw [decide_eq_true l1] at t_1; clear l1
  have HS := Lib.hid (Since.refl w)
  have HT := Lib.hid hT
  clear hT
  have c9 := awake_k
  go_enter Tryd.func5, Tryd.ntmps5
  go_wp2_with fail
  repeat (first
    | (with_reducible refine c9.calls0 HT.out ?_; intro wz hz; replace HT := Lib.hid (Kp.keep HT.out hz); replace HS := Lib.hid (HS.out.step hz); clear hz; try go_wp2_with fail))
  go_ret
  exact ⟨rfl, HS.out⟩
set_option maxRecDepth 100000 in
theorem big_2 (w : World) (kek a b : ByteArray) (f : Int) (l1 : ¬ 100 < kek.size) (l2 : 10100 < a.size) (hT : KH w) :
    Calls Tryd.prog 5 #[.string kek, .int .i64 f, .string a, .string b] w fun x w' => x = .returned (.bool true) ∧ Since w w' := by
  have t_1 : decide ((100 : Int) < (kek.size : Int)) = decide (100 < kek.size) := by norm_cast
  rw [decide_eq_false l1] at t_1; have t_2 : decide ((10100 : Int) < (a.size : Int)) = true := decide_eq_true (by omega); clear l1 l2
  have HS := Lib.hid (Since.refl w)
  have HT := Lib.hid hT
  clear hT
  have c9 := awake_k
  go_enter Tryd.func5, Tryd.ntmps5
  go_wp2_with fail
  repeat (first
    | (with_reducible refine c9.calls0 HT.out ?_; intro wz hz; replace HT := Lib.hid (Kp.keep HT.out hz); replace HS := Lib.hid (HS.out.step hz); clear hz; try go_wp2_with fail))
  go_ret
  exact ⟨rfl, HS.out⟩
set_option maxRecDepth 100000 in
theorem big_3 (w : World) (kek a b : ByteArray) (f : Int) (l1 : ¬ 100 < kek.size) (l2 : ¬ 10100 < a.size) (l3 : 10100 < b.size) (hT : KH w) :
    Calls Tryd.prog 5 #[.string kek, .int .i64 f, .string a, .string b] w fun x w' => x = .returned (.bool true) ∧ Since w w' := by
  have t_1 : decide ((100 : Int) < (kek.size : Int)) = decide (100 < kek.size) := by norm_cast
  rw [decide_eq_false l1] at t_1; have t_2 : decide ((10100 : Int) < (a.size : Int)) = false := decide_eq_false (by omega); have t_3 : decide ((10100 : Int) < (b.size : Int)) = true := decide_eq_true (by omega); clear l1 l2 l3
  have HS := Lib.hid (Since.refl w)
  have HT := Lib.hid hT
  clear hT
  have c9 := awake_k
  go_enter Tryd.func5, Tryd.ntmps5
  go_wp2_with fail
  repeat (first
    | (with_reducible refine c9.calls0 HT.out ?_; intro wz hz; replace HT := Lib.hid (Kp.keep HT.out hz); replace HS := Lib.hid (HS.out.step hz); clear hz; try go_wp2_with fail))
  go_ret
  exact ⟨rfl, HS.out⟩
theorem sums (x y x' y' : Int) (h1 : 0 ≤ x ∧ x ≤ 1000000) (h2 : 0 ≤ y ∧ y ≤ 1000000) (h3 : 0 ≤ x' ∧ x' ≤ 1000000) (h4 : 0 ≤ y' ∧ y' ≤ 1000000) : cSumBits .add .f64 (fl x) (fl y) (fl x') (fl y') = some (fl (x + x'), fl (y + y')) := by
  have e1 : floatBits .add .f64 (fl x) (fl x') = some (fl (x + x')) := add_is (fl x) (fl x') x x' (fl_is x (by omega)) (fl_is x' (by omega)) (by omega)
  have e2 : floatBits .add .f64 (fl y) (fl y') = some (fl (y + y')) := add_is (fl y) (fl y') y y' (fl_is y (by omega)) (fl_is y' (by omega)) (by omega)
  unfold cSumBits
  rw [e1, e2]
  rfl
theorem same (x : Int) (h : 0 ≤ x ∧ x ≤ 9000000) : (FloatKind.f64.format.order (fl x) (fl x) == some .eq) = true := by
  rw [order_fl x x (by omega) (by omega)]
  show (compareOfLessAndEq x x == .eq) = true
  unfold compareOfLessAndEq
  rw [if_neg (by omega), if_pos rfl]; rfl
set_option maxRecDepth 100000 in
theorem walk (kek : ByteArray) (f : Int) (a b : ByteArray) (_w0 : kek.size ≤ maxLen) (_w1 : (Lit.int .i64 f).wf = true) (_w2 : a.size ≤ maxLen) (_w3 : b.size ≤ maxLen) (w : World) (hT : KH w) :
    Calls Tryd.prog 5 #[.string kek, .int .i64 f, .string a, .string b] w fun x w' => x = .returned (.bool true) ∧ Below w.heap.size w w' := by
  by_cases l1 : 100 < kek.size
  · exact big_1 w kek a b f l1 hT
  by_cases l2 : 10100 < a.size
  · exact big_2 w kek a b f l1 l2 hT
  by_cases l3 : 10100 < b.size
  · exact big_3 w kek a b f l1 l2 l3 hT
  have c1 := cost_any kek a f (by omega)
  have c2 := cost_any kek b f (by omega)
  have B := cost_b (kek.size : Int) f a
  have B' := cost_b (kek.size : Int) f b
  have MB := most_b f a
  have MB' := most_b f b
  have D : 0 ≤ costD (kek.size : Int) f a ∧ costD (kek.size : Int) f a ≤ 10100 := by unfold costD; split <;> omega
  have D' : 0 ≤ costD (kek.size : Int) f b ∧ costD (kek.size : Int) f b ≤ 10100 := by unfold costD; split <;> omega
  have s1 := sums 0 0 (costI (kek.size : Int) f a) (costD (kek.size : Int) f a) (by decide) (by decide) (by omega) (by omega)
  rw [fl0, Int.zero_add, Int.zero_add] at s1
  have s2 := sums (costI (kek.size : Int) f a) (costD (kek.size : Int) f a) (costI (kek.size : Int) f b) (costD (kek.size : Int) f b) (by omega) (by omega) (by omega) (by omega)
  have o3 := same (costI (kek.size : Int) f a + costI (kek.size : Int) f b) (by omega)
  have o4 := same (costD (kek.size : Int) f a + costD (kek.size : Int) f b) (by omega)
  cases hg : gateB (kek.size : Int) f a with
  | false =>
    have z1 : costI (kek.size : Int) f a = 0 := by unfold costI; rw [hg]; rfl
    have z2 : costD (kek.size : Int) f a = 0 := by unfold costD; rw [hg]; rfl
    rw [z1, z2, fl0] at c1 s1 s2
    rw [z1] at o3
    rw [z2] at o4
    have c3 := fits_ret f (a.size : Int) _ rfl
    cases hf : fitB f (a.size : Int) with
    | false =>
      rw [hf] at c3
      exact core_f w kek a b f (by omega) (by omega) (by omega) _ _ _ _ c1 c2 s1 s2 o3 o4 c3 hT
    | true =>
      rw [hf] at c3
      unfold gateB at hg
      rw [hf, Bool.true_and] at hg
      unfold kk at hg
      simp only [Bool.or_eq_false_iff, beq_eq_false_iff_ne] at hg
      obtain ⟨⟨k1, k2⟩, k3⟩ := hg
      exact core_k w kek a b f (by omega) (by omega) (by omega) _ _ _ _ c1 c2 s1 s2 o3 o4 c3 (by rw [bne_iff_ne]; exact k1) (by rw [bne_iff_ne]; exact k2) (by rw [bne_iff_ne]; exact k3) hT
  | true =>
    have z2 : costD (kek.size : Int) f a = (a.size : Int) := by unfold costD; rw [hg]; rfl
    have hpos : 16 ≤ a.size := by
      unfold gateB at hg
      rw [Bool.and_eq_true] at hg
      rcases fit_cases hg.1 with ⟨_, h, _⟩ | ⟨_, h, _⟩ <;> omega
    have i1 := fl_is (costI (kek.size : Int) f a) (by omega)
    have i2 := fl_is (a.size : Int) (by omega)
    have o5 := order_is _ _ _ _ i1 Span.is0
    have o2 := order_is _ _ _ _ i2 Span.is0
    rw [z2] at c1 s1 s2 o4
    refine core_nz w kek a b f (by omega) (by omega) (by omega) (costI (kek.size : Int) f a) _ _ _ _ _ _ c1 c2 s1 s2 _ rfl ?_ (Span.conv_fi _ _ i2 (by omega)) (Span.conv_fi _ _ i1 (by omega)) _ (most_ret _ _ _ rfl) (decide_eq_false (by omega)) (decide_eq_false (by omega)) o3 o4 _ o5 ?_ hT
    rotate_left
    · rw [o5]
      show (((compare (costI (kek.size : Int) f a) 0 == .eq) = true ∧ _) ∨ _)
      by_cases h0 : costI (kek.size : Int) f a = 0
      · rw [h0]; exact .inl ⟨rfl, rfl⟩
      · refine .inr ?_
        have : compare (costI (kek.size : Int) f a) 0 = .gt := by
          show compareOfLessAndEq _ _ = _
          unfold compareOfLessAndEq
          rw [if_neg (by omega), if_neg h0]
        rw [this]
        exact ⟨rfl, rfl⟩
    rw [o2]
    show (compare (a.size : Int) 0 == .eq) = false
    rw [Span.cmp_eq]
    exact decide_eq_false (by omega)

set_option maxRecDepth 100000 in
theorem own : ownKnob Tryd.prog.godebug = none := by kernel_rfl

def laidL {H : Type} : List (String × DataW H) := [("claviger/kind.lines", Rows.laid_claviger_kind_lines), ("claviger/table.lines", Rows.laid_claviger_table_lines)]
set_option maxRecDepth 100000 in
theorem door_met (os : Os) (args : Array Value) : laidMetH Tryd.prog laidL ((World.doorLaid Tryd.prog 400 os).forCall (fun _ _ => 0) ⟨#[], args, []⟩).memory :=
  laidMetH_of_parts3 (fuel := 8) (laidMet_of_run' 8 (by kernel_rfl) (by kernel_rfl)) (by kernel_rfl) (by kernel_rfl)
set_option maxRecDepth 100000 in
theorem lifted (os : Os) (started : os.Started) (H : Type) (enc : TypeId × Value → H) :
    ReturnsInHanded {} Tryd.checked os 5 .any (fun w args => (Rows.limitHoldsSpec.pre enc Tryd.prog Tryd.f5 [] false w args ∧ laidMetH Tryd.prog laidL w) ∧ sizedMet enc Tryd.prog Tryd.f5 (OpenSpec.ofChange Rows.limitHoldsSpec) false w args)
      (Rows.limitHoldsSpec.post enc Tryd.prog Tryd.f5 false true false false) := by
  refine returnsInHanded_of_change_and (C := Tryd.checked) (X := fun w _ => laidMetH Tryd.prog laidL w) (fun _ _ _ hh h => h.of_heap hh) own started (by kernel_rfl) Tryd.func5
    (ChangeSpec.witness_shaped (enc := enc) (C := Tryd.checked) (os := os) (X := fun w _ => laidMetH Tryd.prog laidL w) false (World.doorLaid Tryd.prog 400 os) #[.string ⟨#[]⟩, .int .i64 0, .string ⟨#[]⟩, .string ⟨#[]⟩] 8 rfl (World.shaped_of_RefB (by kernel_rfl) (by kernel_rfl)) (by kernel_rfl) (by kernel_rfl) (by kernel_rfl) (door_met os _)) ?_
  intro W base args ds gs before hval0 hW _ _ hL _
  have hval : ∀ (j : Nat) t v, Tryd.f5.params[j]? = some t → args[j]? = some v → Value.okWide Tryd.prog W .any base t v := hval0
  have hW' := hW
  obtain ⟨p, q, hA0, hV, rfl, hfz, hnd⟩ := hW
  have hA : DataW.TrodAll enc Tryd.prog W 0 (fun _ => true) true Tryd.f5.params.toList args.toList ds p := hA0
  rw [Tryd.params5] at hA hval
  obtain ⟨v0, vs0, d0, ds0, p0, q0, hargs, rfl, rfl, h0, r0⟩ := trodAll_cons hA
  obtain ⟨v1, vs1, d1, ds1, p1, q1, rfl, rfl, rfl, h1, r1⟩ := trodAll_cons r0
  obtain ⟨v2, vs2, d2, ds2, p2, q2, rfl, rfl, rfl, h2, r2⟩ := trodAll_cons r1
  obtain ⟨v3, vs3, d3, ds3, p3, q3, rfl, rfl, rfl, h3, r3⟩ := trodAll_cons r2
  obtain ⟨rfl, rfl, rfl⟩ := trodAll_nil r3
  obtain rfl : args = #[v0, v1, v2, v3] := by cases args; simp_all
  obtain ⟨rfl, rfl⟩ := trodVars_none hV
  obtain ⟨a0, rfl, rfl, rfl, w0⟩ := Go.ChangeMaps.open_string Tryd.underlying9 (hval 0 9 v0 rfl rfl) h0
  obtain ⟨a1, rfl, rfl, rfl, w1⟩ := open_int Tryd.underlying3 (hval 1 3 v1 rfl rfl) h1
  obtain ⟨a2, rfl, rfl, rfl, w2⟩ := Go.ChangeMaps.open_string Tryd.underlying9 (hval 2 9 v2 rfl rfl) h2
  obtain ⟨a3, rfl, rfl, rfl, w3⟩ := Go.ChangeMaps.open_string Tryd.underlying9 (hval 3 9 v3 rfl rfl) h3
  clear hA0 hval0
  simp only [List.append_nil] at hW'
  refine (walk a0 a1 a2 a3 w0 w1 w2 w3 W (Header.tabs_of hL)).mono fun e W' ⟨he, hg⟩ => ?_
  subst he
  exact ⟨_, rfl, _, _, _, _, _, [], hW', (trodAll_cons_mk (shut_bool Tryd.underlying4 _) trodAll_mk0), (trodAll_cons_mk (Go.ChangeMaps.shut_string Tryd.underlying9 w0) (trodAll_cons_mk (shut_int Tryd.underlying3 w1) (trodAll_cons_mk (Go.ChangeMaps.shut_string Tryd.underlying9 w2) (trodAll_cons_mk (Go.ChangeMaps.shut_string Tryd.underlying9 w3) trodAll_mk0)))), rfl, hg.frame _, fun h => by cases h⟩

set_option maxRecDepth 100000 in
theorem over : Rows.limitHoldsRow.holds Tryd.pinned (OpenSpec.ofChange Rows.limitHoldsSpec) :=
  OpenClaim.holds_of_wide 5 Tryd.f5 rfl rfl rfl rfl rfl rfl rfl ⟨rfl, rfl, rfl, rfl, rfl⟩ rfl rfl rfl rfl rfl (by kernel_rfl) Tryd.func5 (by kernel_rfl)
    (of_decide_eq_true (by kernel_rfl)) (by unfold Func.isWrapper; first | (rw [if_pos (by decide +kernel)]; kernel_rfl) | (rw [if_neg (by decide +kernel)]; exact ⟨rfl, rfl⟩))
    (fun os started H enc _ => lifted os started H enc)

set_option maxRecDepth 100000 in
theorem proved : Rows.LimitHoldsCardSaid :=
  Claim7.holds_tied_plain_at .later [] [.data, .data] true Rows.limitHoldsCard.stood.harness false
    over (fun _ h => by cases h) (by kernel_rfl) (fun _ h => by cases h) limitHolds_row_tie rfl ⟨rfl, rfl⟩ (by kernel_rfl) rfl
    (fun f fn hf hfn => by
      obtain rfl : f = 5 := Option.some.inj ((show Tryd.prog.funcNamed "claviger/clavigerlaw42.LimitHolds" = some 5 by kernel_rfl).symm.trans hf) |>.symm
      obtain rfl : fn = Tryd.f5 := (Option.some.inj (Tryd.func5.symm.trans hfn)).symm
      exact ⟨by kernel_rfl, fun j t ht => by
        rw [Tryd.params5] at ht
        have hm : t ∈ [9, 3, 9, 9] := by simpa using Array.mem_of_getElem? ht
        have hall : ([9, 3, 9, 9].all fun u => !Tryd.prog.wantsStandIn u) = true := by kernel_rfl
        exact (show Tryd.prog.wantsStandIn t = false by simpa using List.all_eq_true.1 hall t hm)⟩)
    (by kernel_rfl)

end Go.Proofs.YtgfdomdbjiflmaaDoor.limitHolds
