/- The law SpanBack: what is cut is as long as its span; moved there and back a span is as it was; what is apart is not inside; no conditions. -/
import Derived.Test.YtlmnidpcdibnkaaRows
import Derived.WalkKit
import Derived.ProofKit
import Derived.OpenShut
import Derived.Lib.Hide
import Derived.Test.YtlmnidpcdibnkaaSp9
import Derived.Test.YtlmnidpcdibnkaaSp8
import Derived.BigQuiet
namespace Go.Proofs.Ytlmnidpcdibnkaa.spanBack
open Go.ChangeShapes Go.WideShapes Go.ChangeAt Go.RowKit
open Span Flt

theorem belowN (w : World) (q : Nat) : Below w.heap.size w (w.drewN q) := ⟨rfl, rfl, rfl, Nat.le_refl _, fun _ _ => rfl⟩
set_option maxRecDepth 100000 in
set_option maxHeartbeats 4000000 in
theorem core (w : World) (s X : ByteArray) (a b c d n : Int) (x y z u : Nat) (A B C D E F : Nat) (l1 : s.size ≤ 500) (h1 : Sp x y) (h2 : Sp z u)
    (hX : y ≤ s.size → X.size = y - x) (q p r : Bool) (hq : (FloatKind.f64.format.order E 0 == some .eq && FloatKind.f64.format.order F 0 == some .eq) = q)
    (c1 : Ret 10 #[.int .i64 a, .int .i64 b] (.complex .f64 A B)) (c2 : Ret 10 #[.int .i64 c, .int .i64 d] (.complex .f64 C D))
    (c3 : Ret 14 #[.complex .f64 A B] (.int .i64 (x : Int))) (c4 : Ret 15 #[.complex .f64 A B] (.int .i64 (y : Int)))
    (c5 : Ret 14 #[.complex .f64 C D] (.int .i64 (z : Int))) (c6 : Ret 15 #[.complex .f64 C D] (.int .i64 (u : Int)))
    (c7 : Ret 17 #[.string s, .complex .f64 A B] (.string X)) (c8 : Ret 13 #[.complex .f64 A B, .int .i64 n] (.complex .f64 E F))
    (c9 : q = false → -100000 < n → n < 100000 → Ret 13 #[.complex .f64 E F, .int .i64 (-n)] (.complex .f64 A B))
    (o1 : (FloatKind.f64.format.order A A == some .eq && FloatKind.f64.format.order B B == some .eq) = true)
    (c10 : Ret 21 #[.complex .f64 A B, .complex .f64 C D] (.bool p)) (c11 : Ret 19 #[.complex .f64 A B, .complex .f64 C D] (.bool r)) (hpr : x < y → z < u → p = true → r = false) :
    Calls Try.prog 5 #[.string s, .agg #[.int .i64 a, .int .i64 b], .agg #[.int .i64 c, .int .i64 d], .int .i64 n] w fun x w' => x = .returned (.bool true) ∧ Since w w' := by
  have HS := Lib.hid (Since.alloc (Since.alloc (Since.refl w) (.cells #[.int .i64 a, .int .i64 b] 36)) (.cells #[.int .i64 c, .int .i64 d] 36))
  have t1 : decide ((500 : Int) < (s.size : Int)) = false := decide_eq_false (by omega)
  obtain ⟨h1, h1'⟩ := h1
  obtain ⟨h3, h4⟩ := h2
  have HQ := Lib.hid c9
  have HP := Lib.hid hpr
  have HX := Lib.hid hX
  clear c9 hpr hX
  by_cases ky : y ≤ s.size
  · have t2 : decide (y ≤ s.size) = true := decide_eq_true ky
    have t3 : ((X.size : Int) != (y : Int) - (x : Int)) = false := by rw [HX.out ky, bne_eq_false_iff_eq]; omega
    clear HX ky
    cases q
    · by_cases k1 : -100000 < n
      · have t4 : decide ((-100000 : Int) < n) = true := decide_eq_true k1
        by_cases k2 : n < 100000
        · have t5 : decide (n < (100000 : Int)) = true := decide_eq_true k2
          have c9 := HQ.out rfl k1 k2
          clear HQ
          by_cases g1 : x < y
          · have t6 : decide (x < y) = true := decide_eq_true g1
            by_cases g2 : z < u
            · have t7 : decide (z < u) = true := decide_eq_true g2
              cases p
              · clear HP
                go_enter Try.func5, Try.ntmps5
                go_wp2_with fail
                go_quiet (first
                  | (go_at_call 10; with_reducible exact Calls.quiet_of_same (retStill c1 _))
                  | (go_at_call 10; with_reducible exact Calls.quiet_of_same (retStill c2 _)))
                replace HS := Lib.hid (HS.out.step (belowN _ nq))
                go_wp2_with fail
                repeat (first
                  | (with_reducible refine c3.calls ?_; try go_wp2_with fail)
                  | (with_reducible refine c4.calls ?_; try go_wp2_with fail)
                  | (with_reducible refine c5.calls ?_; try go_wp2_with fail)
                  | (with_reducible refine c6.calls ?_; try go_wp2_with fail)
                  | (with_reducible refine c7.calls ?_; try go_wp2_with fail)
                  | (with_reducible refine c8.calls ?_; try go_wp2_with fail)
                  | (with_reducible refine c9.calls ?_; try go_wp2_with fail)
                  | (with_reducible refine c10.calls ?_; try go_wp2_with fail)
                  | (with_reducible refine c11.calls ?_; try go_wp2_with fail)
                  | (with_reducible refine awake_mak.calls HS.out ?_; intro wz hz; replace HS := Lib.hid hz; clear hz; try go_wp2_with fail))
                go_ret
                exact ⟨rfl, HS.out⟩
              · obtain rfl := HP.out g1 g2 rfl
                clear HP
                go_enter Try.func5, Try.ntmps5
                go_wp2_with fail
                go_quiet (first
                  | (go_at_call 10; with_reducible exact Calls.quiet_of_same (retStill c1 _))
                  | (go_at_call 10; with_reducible exact Calls.quiet_of_same (retStill c2 _)))
                replace HS := Lib.hid (HS.out.step (belowN _ nq))
                go_wp2_with fail
                repeat (first
                  | (with_reducible refine c3.calls ?_; try go_wp2_with fail)
                  | (with_reducible refine c4.calls ?_; try go_wp2_with fail)
                  | (with_reducible refine c5.calls ?_; try go_wp2_with fail)
                  | (with_reducible refine c6.calls ?_; try go_wp2_with fail)
                  | (with_reducible refine c7.calls ?_; try go_wp2_with fail)
                  | (with_reducible refine c8.calls ?_; try go_wp2_with fail)
                  | (with_reducible refine c9.calls ?_; try go_wp2_with fail)
                  | (with_reducible refine c10.calls ?_; try go_wp2_with fail)
                  | (with_reducible refine c11.calls ?_; try go_wp2_with fail)
                  | (with_reducible refine awake_mak.calls HS.out ?_; intro wz hz; replace HS := Lib.hid hz; clear hz; try go_wp2_with fail))
                go_ret
                exact ⟨rfl, HS.out⟩
            · have t7 : decide (z < u) = false := decide_eq_false g2
              clear HP
              go_enter Try.func5, Try.ntmps5
              go_wp2_with fail
              go_quiet (first
                | (go_at_call 10; with_reducible exact Calls.quiet_of_same (retStill c1 _))
                | (go_at_call 10; with_reducible exact Calls.quiet_of_same (retStill c2 _)))
              replace HS := Lib.hid (HS.out.step (belowN _ nq))
              go_wp2_with fail
              repeat (first
                | (with_reducible refine c3.calls ?_; try go_wp2_with fail)
                | (with_reducible refine c4.calls ?_; try go_wp2_with fail)
                | (with_reducible refine c5.calls ?_; try go_wp2_with fail)
                | (with_reducible refine c6.calls ?_; try go_wp2_with fail)
                | (with_reducible refine c7.calls ?_; try go_wp2_with fail)
                | (with_reducible refine c8.calls ?_; try go_wp2_with fail)
                | (with_reducible refine c9.calls ?_; try go_wp2_with fail)
                | (with_reducible refine c10.calls ?_; try go_wp2_with fail)
                | (with_reducible refine c11.calls ?_; try go_wp2_with fail)
                | (with_reducible refine awake_mak.calls HS.out ?_; intro wz hz; replace HS := Lib.hid hz; clear hz; try go_wp2_with fail))
              go_ret
              exact ⟨rfl, HS.out⟩
          · have t6 : decide (x < y) = false := decide_eq_false g1
            clear HP
            go_enter Try.func5, Try.ntmps5
            go_wp2_with fail
            go_quiet (first
              | (go_at_call 10; with_reducible exact Calls.quiet_of_same (retStill c1 _))
              | (go_at_call 10; with_reducible exact Calls.quiet_of_same (retStill c2 _)))
            replace HS := Lib.hid (HS.out.step (belowN _ nq))
            go_wp2_with fail
            repeat (first
              | (with_reducible refine c3.calls ?_; try go_wp2_with fail)
              | (with_reducible refine c4.calls ?_; try go_wp2_with fail)
              | (with_reducible refine c5.calls ?_; try go_wp2_with fail)
              | (with_reducible refine c6.calls ?_; try go_wp2_with fail)
              | (with_reducible refine c7.calls ?_; try go_wp2_with fail)
              | (with_reducible refine c8.calls ?_; try go_wp2_with fail)
              | (with_reducible refine c9.calls ?_; try go_wp2_with fail)
              | (with_reducible refine c10.calls ?_; try go_wp2_with fail)
              | (with_reducible refine c11.calls ?_; try go_wp2_with fail)
              | (with_reducible refine awake_mak.calls HS.out ?_; intro wz hz; replace HS := Lib.hid hz; clear hz; try go_wp2_with fail))
            go_ret
            exact ⟨rfl, HS.out⟩
        · have t5 : decide (n < (100000 : Int)) = false := decide_eq_false k2
          clear HQ
          by_cases g1 : x < y
          · have t6 : decide (x < y) = true := decide_eq_true g1
            by_cases g2 : z < u
            · have t7 : decide (z < u) = true := decide_eq_true g2
              cases p
              · clear HP
                go_enter Try.func5, Try.ntmps5
                go_wp2_with fail
                go_quiet (first
                  | (go_at_call 10; with_reducible exact Calls.quiet_of_same (retStill c1 _))
                  | (go_at_call 10; with_reducible exact Calls.quiet_of_same (retStill c2 _)))
                replace HS := Lib.hid (HS.out.step (belowN _ nq))
                go_wp2_with fail
                repeat (first
                  | (with_reducible refine c3.calls ?_; try go_wp2_with fail)
                  | (with_reducible refine c4.calls ?_; try go_wp2_with fail)
                  | (with_reducible refine c5.calls ?_; try go_wp2_with fail)
                  | (with_reducible refine c6.calls ?_; try go_wp2_with fail)
                  | (with_reducible refine c7.calls ?_; try go_wp2_with fail)
                  | (with_reducible refine c8.calls ?_; try go_wp2_with fail)
                  | (with_reducible refine c8.calls ?_; try go_wp2_with fail)
                  | (with_reducible refine c10.calls ?_; try go_wp2_with fail)
                  | (with_reducible refine c11.calls ?_; try go_wp2_with fail)
                  | (with_reducible refine awake_mak.calls HS.out ?_; intro wz hz; replace HS := Lib.hid hz; clear hz; try go_wp2_with fail))
                go_ret
                exact ⟨rfl, HS.out⟩
              · obtain rfl := HP.out g1 g2 rfl
                clear HP
                go_enter Try.func5, Try.ntmps5
                go_wp2_with fail
                go_quiet (first
                  | (go_at_call 10; with_reducible exact Calls.quiet_of_same (retStill c1 _))
                  | (go_at_call 10; with_reducible exact Calls.quiet_of_same (retStill c2 _)))
                replace HS := Lib.hid (HS.out.step (belowN _ nq))
                go_wp2_with fail
                repeat (first
                  | (with_reducible refine c3.calls ?_; try go_wp2_with fail)
                  | (with_reducible refine c4.calls ?_; try go_wp2_with fail)
                  | (with_reducible refine c5.calls ?_; try go_wp2_with fail)
                  | (with_reducible refine c6.calls ?_; try go_wp2_with fail)
                  | (with_reducible refine c7.calls ?_; try go_wp2_with fail)
                  | (with_reducible refine c8.calls ?_; try go_wp2_with fail)
                  | (with_reducible refine c8.calls ?_; try go_wp2_with fail)
                  | (with_reducible refine c10.calls ?_; try go_wp2_with fail)
                  | (with_reducible refine c11.calls ?_; try go_wp2_with fail)
                  | (with_reducible refine awake_mak.calls HS.out ?_; intro wz hz; replace HS := Lib.hid hz; clear hz; try go_wp2_with fail))
                go_ret
                exact ⟨rfl, HS.out⟩
            · have t7 : decide (z < u) = false := decide_eq_false g2
              clear HP
              go_enter Try.func5, Try.ntmps5
              go_wp2_with fail
              go_quiet (first
                | (go_at_call 10; with_reducible exact Calls.quiet_of_same (retStill c1 _))
                | (go_at_call 10; with_reducible exact Calls.quiet_of_same (retStill c2 _)))
              replace HS := Lib.hid (HS.out.step (belowN _ nq))
              go_wp2_with fail
              repeat (first
                | (with_reducible refine c3.calls ?_; try go_wp2_with fail)
                | (with_reducible refine c4.calls ?_; try go_wp2_with fail)
                | (with_reducible refine c5.calls ?_; try go_wp2_with fail)
                | (with_reducible refine c6.calls ?_; try go_wp2_with fail)
                | (with_reducible refine c7.calls ?_; try go_wp2_with fail)
                | (with_reducible refine c8.calls ?_; try go_wp2_with fail)
                | (with_reducible refine c8.calls ?_; try go_wp2_with fail)
                | (with_reducible refine c10.calls ?_; try go_wp2_with fail)
                | (with_reducible refine c11.calls ?_; try go_wp2_with fail)
                | (with_reducible refine awake_mak.calls HS.out ?_; intro wz hz; replace HS := Lib.hid hz; clear hz; try go_wp2_with fail))
              go_ret
              exact ⟨rfl, HS.out⟩
          · have t6 : decide (x < y) = false := decide_eq_false g1
            clear HP
            go_enter Try.func5, Try.ntmps5
            go_wp2_with fail
            go_quiet (first
              | (go_at_call 10; with_reducible exact Calls.quiet_of_same (retStill c1 _))
              | (go_at_call 10; with_reducible exact Calls.quiet_of_same (retStill c2 _)))
            replace HS := Lib.hid (HS.out.step (belowN _ nq))
            go_wp2_with fail
            repeat (first
              | (with_reducible refine c3.calls ?_; try go_wp2_with fail)
              | (with_reducible refine c4.calls ?_; try go_wp2_with fail)
              | (with_reducible refine c5.calls ?_; try go_wp2_with fail)
              | (with_reducible refine c6.calls ?_; try go_wp2_with fail)
              | (with_reducible refine c7.calls ?_; try go_wp2_with fail)
              | (with_reducible refine c8.calls ?_; try go_wp2_with fail)
              | (with_reducible refine c8.calls ?_; try go_wp2_with fail)
              | (with_reducible refine c10.calls ?_; try go_wp2_with fail)
              | (with_reducible refine c11.calls ?_; try go_wp2_with fail)
              | (with_reducible refine awake_mak.calls HS.out ?_; intro wz hz; replace HS := Lib.hid hz; clear hz; try go_wp2_with fail))
            go_ret
            exact ⟨rfl, HS.out⟩
      · have t4 : decide ((-100000 : Int) < n) = false := decide_eq_false k1
        clear HQ
        by_cases g1 : x < y
        · have t6 : decide (x < y) = true := decide_eq_true g1
          by_cases g2 : z < u
          · have t7 : decide (z < u) = true := decide_eq_true g2
            cases p
            · clear HP
              go_enter Try.func5, Try.ntmps5
              go_wp2_with fail
              go_quiet (first
                | (go_at_call 10; with_reducible exact Calls.quiet_of_same (retStill c1 _))
                | (go_at_call 10; with_reducible exact Calls.quiet_of_same (retStill c2 _)))
              replace HS := Lib.hid (HS.out.step (belowN _ nq))
              go_wp2_with fail
              repeat (first
                | (with_reducible refine c3.calls ?_; try go_wp2_with fail)
                | (with_reducible refine c4.calls ?_; try go_wp2_with fail)
                | (with_reducible refine c5.calls ?_; try go_wp2_with fail)
                | (with_reducible refine c6.calls ?_; try go_wp2_with fail)
                | (with_reducible refine c7.calls ?_; try go_wp2_with fail)
                | (with_reducible refine c8.calls ?_; try go_wp2_with fail)
                | (with_reducible refine c8.calls ?_; try go_wp2_with fail)
                | (with_reducible refine c10.calls ?_; try go_wp2_with fail)
                | (with_reducible refine c11.calls ?_; try go_wp2_with fail)
                | (with_reducible refine awake_mak.calls HS.out ?_; intro wz hz; replace HS := Lib.hid hz; clear hz; try go_wp2_with fail))
              go_ret
              exact ⟨rfl, HS.out⟩
            · obtain rfl := HP.out g1 g2 rfl
              clear HP
              go_enter Try.func5, Try.ntmps5
              go_wp2_with fail
              go_quiet (first
                | (go_at_call 10; with_reducible exact Calls.quiet_of_same (retStill c1 _))
                | (go_at_call 10; with_reducible exact Calls.quiet_of_same (retStill c2 _)))
              replace HS := Lib.hid (HS.out.step (belowN _ nq))
              go_wp2_with fail
              repeat (first
                | (with_reducible refine c3.calls ?_; try go_wp2_with fail)
                | (with_reducible refine c4.calls ?_; try go_wp2_with fail)
                | (with_reducible refine c5.calls ?_; try go_wp2_with fail)
                | (with_reducible refine c6.calls ?_; try go_wp2_with fail)
                | (with_reducible refine c7.calls ?_; try go_wp2_with fail)
                | (with_reducible refine c8.calls ?_; try go_wp2_with fail)
                | (with_reducible refine c8.calls ?_; try go_wp2_with fail)
                | (with_reducible refine c10.calls ?_; try go_wp2_with fail)
                | (with_reducible refine c11.calls ?_; try go_wp2_with fail)
                | (with_reducible refine awake_mak.calls HS.out ?_; intro wz hz; replace HS := Lib.hid hz; clear hz; try go_wp2_with fail))
              go_ret
              exact ⟨rfl, HS.out⟩
          · have t7 : decide (z < u) = false := decide_eq_false g2
            clear HP
            go_enter Try.func5, Try.ntmps5
            go_wp2_with fail
            go_quiet (first
              | (go_at_call 10; with_reducible exact Calls.quiet_of_same (retStill c1 _))
              | (go_at_call 10; with_reducible exact Calls.quiet_of_same (retStill c2 _)))
            replace HS := Lib.hid (HS.out.step (belowN _ nq))
            go_wp2_with fail
            repeat (first
              | (with_reducible refine c3.calls ?_; try go_wp2_with fail)
              | (with_reducible refine c4.calls ?_; try go_wp2_with fail)
              | (with_reducible refine c5.calls ?_; try go_wp2_with fail)
              | (with_reducible refine c6.calls ?_; try go_wp2_with fail)
              | (with_reducible refine c7.calls ?_; try go_wp2_with fail)
              | (with_reducible refine c8.calls ?_; try go_wp2_with fail)
              | (with_reducible refine c8.calls ?_; try go_wp2_with fail)
              | (with_reducible refine c10.calls ?_; try go_wp2_with fail)
              | (with_reducible refine c11.calls ?_; try go_wp2_with fail)
              | (with_reducible refine awake_mak.calls HS.out ?_; intro wz hz; replace HS := Lib.hid hz; clear hz; try go_wp2_with fail))
            go_ret
            exact ⟨rfl, HS.out⟩
        · have t6 : decide (x < y) = false := decide_eq_false g1
          clear HP
          go_enter Try.func5, Try.ntmps5
          go_wp2_with fail
          go_quiet (first
            | (go_at_call 10; with_reducible exact Calls.quiet_of_same (retStill c1 _))
            | (go_at_call 10; with_reducible exact Calls.quiet_of_same (retStill c2 _)))
          replace HS := Lib.hid (HS.out.step (belowN _ nq))
          go_wp2_with fail
          repeat (first
            | (with_reducible refine c3.calls ?_; try go_wp2_with fail)
            | (with_reducible refine c4.calls ?_; try go_wp2_with fail)
            | (with_reducible refine c5.calls ?_; try go_wp2_with fail)
            | (with_reducible refine c6.calls ?_; try go_wp2_with fail)
            | (with_reducible refine c7.calls ?_; try go_wp2_with fail)
            | (with_reducible refine c8.calls ?_; try go_wp2_with fail)
            | (with_reducible refine c8.calls ?_; try go_wp2_with fail)
            | (with_reducible refine c10.calls ?_; try go_wp2_with fail)
            | (with_reducible refine c11.calls ?_; try go_wp2_with fail)
            | (with_reducible refine awake_mak.calls HS.out ?_; intro wz hz; replace HS := Lib.hid hz; clear hz; try go_wp2_with fail))
          go_ret
          exact ⟨rfl, HS.out⟩
    · clear HQ
      by_cases g1 : x < y
      · have t6 : decide (x < y) = true := decide_eq_true g1
        by_cases g2 : z < u
        · have t7 : decide (z < u) = true := decide_eq_true g2
          cases p
          · clear HP
            go_enter Try.func5, Try.ntmps5
            go_wp2_with fail
            go_quiet (first
              | (go_at_call 10; with_reducible exact Calls.quiet_of_same (retStill c1 _))
              | (go_at_call 10; with_reducible exact Calls.quiet_of_same (retStill c2 _)))
            replace HS := Lib.hid (HS.out.step (belowN _ nq))
            go_wp2_with fail
            repeat (first
              | (with_reducible refine c3.calls ?_; try go_wp2_with fail)
              | (with_reducible refine c4.calls ?_; try go_wp2_with fail)
              | (with_reducible refine c5.calls ?_; try go_wp2_with fail)
              | (with_reducible refine c6.calls ?_; try go_wp2_with fail)
              | (with_reducible refine c7.calls ?_; try go_wp2_with fail)
              | (with_reducible refine c8.calls ?_; try go_wp2_with fail)
              | (with_reducible refine c8.calls ?_; try go_wp2_with fail)
              | (with_reducible refine c10.calls ?_; try go_wp2_with fail)
              | (with_reducible refine c11.calls ?_; try go_wp2_with fail)
              | (with_reducible refine awake_mak.calls HS.out ?_; intro wz hz; replace HS := Lib.hid hz; clear hz; try go_wp2_with fail))
            go_ret
            exact ⟨rfl, HS.out⟩
          · obtain rfl := HP.out g1 g2 rfl
            clear HP
            go_enter Try.func5, Try.ntmps5
            go_wp2_with fail
            go_quiet (first
              | (go_at_call 10; with_reducible exact Calls.quiet_of_same (retStill c1 _))
              | (go_at_call 10; with_reducible exact Calls.quiet_of_same (retStill c2 _)))
            replace HS := Lib.hid (HS.out.step (belowN _ nq))
            go_wp2_with fail
            repeat (first
              | (with_reducible refine c3.calls ?_; try go_wp2_with fail)
              | (with_reducible refine c4.calls ?_; try go_wp2_with fail)
              | (with_reducible refine c5.calls ?_; try go_wp2_with fail)
              | (with_reducible refine c6.calls ?_; try go_wp2_with fail)
              | (with_reducible refine c7.calls ?_; try go_wp2_with fail)
              | (with_reducible refine c8.calls ?_; try go_wp2_with fail)
              | (with_reducible refine c8.calls ?_; try go_wp2_with fail)
              | (with_reducible refine c10.calls ?_; try go_wp2_with fail)
              | (with_reducible refine c11.calls ?_; try go_wp2_with fail)
              | (with_reducible refine awake_mak.calls HS.out ?_; intro wz hz; replace HS := Lib.hid hz; clear hz; try go_wp2_with fail))
            go_ret
            exact ⟨rfl, HS.out⟩
        · have t7 : decide (z < u) = false := decide_eq_false g2
          clear HP
          go_enter Try.func5, Try.ntmps5
          go_wp2_with fail
          go_quiet (first
            | (go_at_call 10; with_reducible exact Calls.quiet_of_same (retStill c1 _))
            | (go_at_call 10; with_reducible exact Calls.quiet_of_same (retStill c2 _)))
          replace HS := Lib.hid (HS.out.step (belowN _ nq))
          go_wp2_with fail
          repeat (first
            | (with_reducible refine c3.calls ?_; try go_wp2_with fail)
            | (with_reducible refine c4.calls ?_; try go_wp2_with fail)
            | (with_reducible refine c5.calls ?_; try go_wp2_with fail)
            | (with_reducible refine c6.calls ?_; try go_wp2_with fail)
            | (with_reducible refine c7.calls ?_; try go_wp2_with fail)
            | (with_reducible refine c8.calls ?_; try go_wp2_with fail)
            | (with_reducible refine c8.calls ?_; try go_wp2_with fail)
            | (with_reducible refine c10.calls ?_; try go_wp2_with fail)
            | (with_reducible refine c11.calls ?_; try go_wp2_with fail)
            | (with_reducible refine awake_mak.calls HS.out ?_; intro wz hz; replace HS := Lib.hid hz; clear hz; try go_wp2_with fail))
          go_ret
          exact ⟨rfl, HS.out⟩
      · have t6 : decide (x < y) = false := decide_eq_false g1
        clear HP
        go_enter Try.func5, Try.ntmps5
        go_wp2_with fail
        go_quiet (first
          | (go_at_call 10; with_reducible exact Calls.quiet_of_same (retStill c1 _))
          | (go_at_call 10; with_reducible exact Calls.quiet_of_same (retStill c2 _)))
        replace HS := Lib.hid (HS.out.step (belowN _ nq))
        go_wp2_with fail
        repeat (first
          | (with_reducible refine c3.calls ?_; try go_wp2_with fail)
          | (with_reducible refine c4.calls ?_; try go_wp2_with fail)
          | (with_reducible refine c5.calls ?_; try go_wp2_with fail)
          | (with_reducible refine c6.calls ?_; try go_wp2_with fail)
          | (with_reducible refine c7.calls ?_; try go_wp2_with fail)
          | (with_reducible refine c8.calls ?_; try go_wp2_with fail)
          | (with_reducible refine c8.calls ?_; try go_wp2_with fail)
          | (with_reducible refine c10.calls ?_; try go_wp2_with fail)
          | (with_reducible refine c11.calls ?_; try go_wp2_with fail)
          | (with_reducible refine awake_mak.calls HS.out ?_; intro wz hz; replace HS := Lib.hid hz; clear hz; try go_wp2_with fail))
        go_ret
        exact ⟨rfl, HS.out⟩
  · have t2 : decide (y ≤ s.size) = false := decide_eq_false ky
    clear HX ky
    cases q
    · by_cases k1 : -100000 < n
      · have t4 : decide ((-100000 : Int) < n) = true := decide_eq_true k1
        by_cases k2 : n < 100000
        · have t5 : decide (n < (100000 : Int)) = true := decide_eq_true k2
          have c9 := HQ.out rfl k1 k2
          clear HQ
          by_cases g1 : x < y
          · have t6 : decide (x < y) = true := decide_eq_true g1
            by_cases g2 : z < u
            · have t7 : decide (z < u) = true := decide_eq_true g2
              cases p
              · clear HP
                go_enter Try.func5, Try.ntmps5
                go_wp2_with fail
                go_quiet (first
                  | (go_at_call 10; with_reducible exact Calls.quiet_of_same (retStill c1 _))
                  | (go_at_call 10; with_reducible exact Calls.quiet_of_same (retStill c2 _)))
                replace HS := Lib.hid (HS.out.step (belowN _ nq))
                go_wp2_with fail
                repeat (first
                  | (with_reducible refine c3.calls ?_; try go_wp2_with fail)
                  | (with_reducible refine c4.calls ?_; try go_wp2_with fail)
                  | (with_reducible refine c5.calls ?_; try go_wp2_with fail)
                  | (with_reducible refine c6.calls ?_; try go_wp2_with fail)
                  | (with_reducible refine c7.calls ?_; try go_wp2_with fail)
                  | (with_reducible refine c8.calls ?_; try go_wp2_with fail)
                  | (with_reducible refine c9.calls ?_; try go_wp2_with fail)
                  | (with_reducible refine c10.calls ?_; try go_wp2_with fail)
                  | (with_reducible refine c11.calls ?_; try go_wp2_with fail)
                  | (with_reducible refine awake_mak.calls HS.out ?_; intro wz hz; replace HS := Lib.hid hz; clear hz; try go_wp2_with fail))
                go_ret
                exact ⟨rfl, HS.out⟩
              · obtain rfl := HP.out g1 g2 rfl
                clear HP
                go_enter Try.func5, Try.ntmps5
                go_wp2_with fail
                go_quiet (first
                  | (go_at_call 10; with_reducible exact Calls.quiet_of_same (retStill c1 _))
                  | (go_at_call 10; with_reducible exact Calls.quiet_of_same (retStill c2 _)))
                replace HS := Lib.hid (HS.out.step (belowN _ nq))
                go_wp2_with fail
                repeat (first
                  | (with_reducible refine c3.calls ?_; try go_wp2_with fail)
                  | (with_reducible refine c4.calls ?_; try go_wp2_with fail)
                  | (with_reducible refine c5.calls ?_; try go_wp2_with fail)
                  | (with_reducible refine c6.calls ?_; try go_wp2_with fail)
                  | (with_reducible refine c7.calls ?_; try go_wp2_with fail)
                  | (with_reducible refine c8.calls ?_; try go_wp2_with fail)
                  | (with_reducible refine c9.calls ?_; try go_wp2_with fail)
                  | (with_reducible refine c10.calls ?_; try go_wp2_with fail)
                  | (with_reducible refine c11.calls ?_; try go_wp2_with fail)
                  | (with_reducible refine awake_mak.calls HS.out ?_; intro wz hz; replace HS := Lib.hid hz; clear hz; try go_wp2_with fail))
                go_ret
                exact ⟨rfl, HS.out⟩
            · have t7 : decide (z < u) = false := decide_eq_false g2
              clear HP
              go_enter Try.func5, Try.ntmps5
              go_wp2_with fail
              go_quiet (first
                | (go_at_call 10; with_reducible exact Calls.quiet_of_same (retStill c1 _))
                | (go_at_call 10; with_reducible exact Calls.quiet_of_same (retStill c2 _)))
              replace HS := Lib.hid (HS.out.step (belowN _ nq))
              go_wp2_with fail
              repeat (first
                | (with_reducible refine c3.calls ?_; try go_wp2_with fail)
                | (with_reducible refine c4.calls ?_; try go_wp2_with fail)
                | (with_reducible refine c5.calls ?_; try go_wp2_with fail)
                | (with_reducible refine c6.calls ?_; try go_wp2_with fail)
                | (with_reducible refine c7.calls ?_; try go_wp2_with fail)
                | (with_reducible refine c8.calls ?_; try go_wp2_with fail)
                | (with_reducible refine c9.calls ?_; try go_wp2_with fail)
                | (with_reducible refine c10.calls ?_; try go_wp2_with fail)
                | (with_reducible refine c11.calls ?_; try go_wp2_with fail)
                | (with_reducible refine awake_mak.calls HS.out ?_; intro wz hz; replace HS := Lib.hid hz; clear hz; try go_wp2_with fail))
              go_ret
              exact ⟨rfl, HS.out⟩
          · have t6 : decide (x < y) = false := decide_eq_false g1
            clear HP
            go_enter Try.func5, Try.ntmps5
            go_wp2_with fail
            go_quiet (first
              | (go_at_call 10; with_reducible exact Calls.quiet_of_same (retStill c1 _))
              | (go_at_call 10; with_reducible exact Calls.quiet_of_same (retStill c2 _)))
            replace HS := Lib.hid (HS.out.step (belowN _ nq))
            go_wp2_with fail
            repeat (first
              | (with_reducible refine c3.calls ?_; try go_wp2_with fail)
              | (with_reducible refine c4.calls ?_; try go_wp2_with fail)
              | (with_reducible refine c5.calls ?_; try go_wp2_with fail)
              | (with_reducible refine c6.calls ?_; try go_wp2_with fail)
              | (with_reducible refine c7.calls ?_; try go_wp2_with fail)
              | (with_reducible refine c8.calls ?_; try go_wp2_with fail)
              | (with_reducible refine c9.calls ?_; try go_wp2_with fail)
              | (with_reducible refine c10.calls ?_; try go_wp2_with fail)
              | (with_reducible refine c11.calls ?_; try go_wp2_with fail)
              | (with_reducible refine awake_mak.calls HS.out ?_; intro wz hz; replace HS := Lib.hid hz; clear hz; try go_wp2_with fail))
            go_ret
            exact ⟨rfl, HS.out⟩
        · have t5 : decide (n < (100000 : Int)) = false := decide_eq_false k2
          clear HQ
          by_cases g1 : x < y
          · have t6 : decide (x < y) = true := decide_eq_true g1
            by_cases g2 : z < u
            · have t7 : decide (z < u) = true := decide_eq_true g2
              cases p
              · clear HP
                go_enter Try.func5, Try.ntmps5
                go_wp2_with fail
                go_quiet (first
                  | (go_at_call 10; with_reducible exact Calls.quiet_of_same (retStill c1 _))
                  | (go_at_call 10; with_reducible exact Calls.quiet_of_same (retStill c2 _)))
                replace HS := Lib.hid (HS.out.step (belowN _ nq))
                go_wp2_with fail
                repeat (first
                  | (with_reducible refine c3.calls ?_; try go_wp2_with fail)
                  | (with_reducible refine c4.calls ?_; try go_wp2_with fail)
                  | (with_reducible refine c5.calls ?_; try go_wp2_with fail)
                  | (with_reducible refine c6.calls ?_; try go_wp2_with fail)
                  | (with_reducible refine c7.calls ?_; try go_wp2_with fail)
                  | (with_reducible refine c8.calls ?_; try go_wp2_with fail)
                  | (with_reducible refine c8.calls ?_; try go_wp2_with fail)
                  | (with_reducible refine c10.calls ?_; try go_wp2_with fail)
                  | (with_reducible refine c11.calls ?_; try go_wp2_with fail)
                  | (with_reducible refine awake_mak.calls HS.out ?_; intro wz hz; replace HS := Lib.hid hz; clear hz; try go_wp2_with fail))
                go_ret
                exact ⟨rfl, HS.out⟩
              · obtain rfl := HP.out g1 g2 rfl
                clear HP
                go_enter Try.func5, Try.ntmps5
                go_wp2_with fail
                go_quiet (first
                  | (go_at_call 10; with_reducible exact Calls.quiet_of_same (retStill c1 _))
                  | (go_at_call 10; with_reducible exact Calls.quiet_of_same (retStill c2 _)))
                replace HS := Lib.hid (HS.out.step (belowN _ nq))
                go_wp2_with fail
                repeat (first
                  | (with_reducible refine c3.calls ?_; try go_wp2_with fail)
                  | (with_reducible refine c4.calls ?_; try go_wp2_with fail)
                  | (with_reducible refine c5.calls ?_; try go_wp2_with fail)
                  | (with_reducible refine c6.calls ?_; try go_wp2_with fail)
                  | (with_reducible refine c7.calls ?_; try go_wp2_with fail)
                  | (with_reducible refine c8.calls ?_; try go_wp2_with fail)
                  | (with_reducible refine c8.calls ?_; try go_wp2_with fail)
                  | (with_reducible refine c10.calls ?_; try go_wp2_with fail)
                  | (with_reducible refine c11.calls ?_; try go_wp2_with fail)
                  | (with_reducible refine awake_mak.calls HS.out ?_; intro wz hz; replace HS := Lib.hid hz; clear hz; try go_wp2_with fail))
                go_ret
                exact ⟨rfl, HS.out⟩
            · have t7 : decide (z < u) = false := decide_eq_false g2
              clear HP
              go_enter Try.func5, Try.ntmps5
              go_wp2_with fail
              go_quiet (first
                | (go_at_call 10; with_reducible exact Calls.quiet_of_same (retStill c1 _))
                | (go_at_call 10; with_reducible exact Calls.quiet_of_same (retStill c2 _)))
              replace HS := Lib.hid (HS.out.step (belowN _ nq))
              go_wp2_with fail
              repeat (first
                | (with_reducible refine c3.calls ?_; try go_wp2_with fail)
                | (with_reducible refine c4.calls ?_; try go_wp2_with fail)
                | (with_reducible refine c5.calls ?_; try go_wp2_with fail)
                | (with_reducible refine c6.calls ?_; try go_wp2_with fail)
                | (with_reducible refine c7.calls ?_; try go_wp2_with fail)
                | (with_reducible refine c8.calls ?_; try go_wp2_with fail)
                | (with_reducible refine c8.calls ?_; try go_wp2_with fail)
                | (with_reducible refine c10.calls ?_; try go_wp2_with fail)
                | (with_reducible refine c11.calls ?_; try go_wp2_with fail)
                | (with_reducible refine awake_mak.calls HS.out ?_; intro wz hz; replace HS := Lib.hid hz; clear hz; try go_wp2_with fail))
              go_ret
              exact ⟨rfl, HS.out⟩
          · have t6 : decide (x < y) = false := decide_eq_false g1
            clear HP
            go_enter Try.func5, Try.ntmps5
            go_wp2_with fail
            go_quiet (first
              | (go_at_call 10; with_reducible exact Calls.quiet_of_same (retStill c1 _))
              | (go_at_call 10; with_reducible exact Calls.quiet_of_same (retStill c2 _)))
            replace HS := Lib.hid (HS.out.step (belowN _ nq))
            go_wp2_with fail
            repeat (first
              | (with_reducible refine c3.calls ?_; try go_wp2_with fail)
              | (with_reducible refine c4.calls ?_; try go_wp2_with fail)
              | (with_reducible refine c5.calls ?_; try go_wp2_with fail)
              | (with_reducible refine c6.calls ?_; try go_wp2_with fail)
              | (with_reducible refine c7.calls ?_; try go_wp2_with fail)
              | (with_reducible refine c8.calls ?_; try go_wp2_with fail)
              | (with_reducible refine c8.calls ?_; try go_wp2_with fail)
              | (with_reducible refine c10.calls ?_; try go_wp2_with fail)
              | (with_reducible refine c11.calls ?_; try go_wp2_with fail)
              | (with_reducible refine awake_mak.calls HS.out ?_; intro wz hz; replace HS := Lib.hid hz; clear hz; try go_wp2_with fail))
            go_ret
            exact ⟨rfl, HS.out⟩
      · have t4 : decide ((-100000 : Int) < n) = false := decide_eq_false k1
        clear HQ
        by_cases g1 : x < y
        · have t6 : decide (x < y) = true := decide_eq_true g1
          by_cases g2 : z < u
          · have t7 : decide (z < u) = true := decide_eq_true g2
            cases p
            · clear HP
              go_enter Try.func5, Try.ntmps5
              go_wp2_with fail
              go_quiet (first
                | (go_at_call 10; with_reducible exact Calls.quiet_of_same (retStill c1 _))
                | (go_at_call 10; with_reducible exact Calls.quiet_of_same (retStill c2 _)))
              replace HS := Lib.hid (HS.out.step (belowN _ nq))
              go_wp2_with fail
              repeat (first
                | (with_reducible refine c3.calls ?_; try go_wp2_with fail)
                | (with_reducible refine c4.calls ?_; try go_wp2_with fail)
                | (with_reducible refine c5.calls ?_; try go_wp2_with fail)
                | (with_reducible refine c6.calls ?_; try go_wp2_with fail)
                | (with_reducible refine c7.calls ?_; try go_wp2_with fail)
                | (with_reducible refine c8.calls ?_; try go_wp2_with fail)
                | (with_reducible refine c8.calls ?_; try go_wp2_with fail)
                | (with_reducible refine c10.calls ?_; try go_wp2_with fail)
                | (with_reducible refine c11.calls ?_; try go_wp2_with fail)
                | (with_reducible refine awake_mak.calls HS.out ?_; intro wz hz; replace HS := Lib.hid hz; clear hz; try go_wp2_with fail))
              go_ret
              exact ⟨rfl, HS.out⟩
            · obtain rfl := HP.out g1 g2 rfl
              clear HP
              go_enter Try.func5, Try.ntmps5
              go_wp2_with fail
              go_quiet (first
                | (go_at_call 10; with_reducible exact Calls.quiet_of_same (retStill c1 _))
                | (go_at_call 10; with_reducible exact Calls.quiet_of_same (retStill c2 _)))
              replace HS := Lib.hid (HS.out.step (belowN _ nq))
              go_wp2_with fail
              repeat (first
                | (with_reducible refine c3.calls ?_; try go_wp2_with fail)
                | (with_reducible refine c4.calls ?_; try go_wp2_with fail)
                | (with_reducible refine c5.calls ?_; try go_wp2_with fail)
                | (with_reducible refine c6.calls ?_; try go_wp2_with fail)
                | (with_reducible refine c7.calls ?_; try go_wp2_with fail)
                | (with_reducible refine c8.calls ?_; try go_wp2_with fail)
                | (with_reducible refine c8.calls ?_; try go_wp2_with fail)
                | (with_reducible refine c10.calls ?_; try go_wp2_with fail)
                | (with_reducible refine c11.calls ?_; try go_wp2_with fail)
                | (with_reducible refine awake_mak.calls HS.out ?_; intro wz hz; replace HS := Lib.hid hz; clear hz; try go_wp2_with fail))
              go_ret
              exact ⟨rfl, HS.out⟩
          · have t7 : decide (z < u) = false := decide_eq_false g2
            clear HP
            go_enter Try.func5, Try.ntmps5
            go_wp2_with fail
            go_quiet (first
              | (go_at_call 10; with_reducible exact Calls.quiet_of_same (retStill c1 _))
              | (go_at_call 10; with_reducible exact Calls.quiet_of_same (retStill c2 _)))
            replace HS := Lib.hid (HS.out.step (belowN _ nq))
            go_wp2_with fail
            repeat (first
              | (with_reducible refine c3.calls ?_; try go_wp2_with fail)
              | (with_reducible refine c4.calls ?_; try go_wp2_with fail)
              | (with_reducible refine c5.calls ?_; try go_wp2_with fail)
              | (with_reducible refine c6.calls ?_; try go_wp2_with fail)
              | (with_reducible refine c7.calls ?_; try go_wp2_with fail)
              | (with_reducible refine c8.calls ?_; try go_wp2_with fail)
              | (with_reducible refine c8.calls ?_; try go_wp2_with fail)
              | (with_reducible refine c10.calls ?_; try go_wp2_with fail)
              | (with_reducible refine c11.calls ?_; try go_wp2_with fail)
              | (with_reducible refine awake_mak.calls HS.out ?_; intro wz hz; replace HS := Lib.hid hz; clear hz; try go_wp2_with fail))
            go_ret
            exact ⟨rfl, HS.out⟩
        · have t6 : decide (x < y) = false := decide_eq_false g1
          clear HP
          go_enter Try.func5, Try.ntmps5
          go_wp2_with fail
          go_quiet (first
            | (go_at_call 10; with_reducible exact Calls.quiet_of_same (retStill c1 _))
            | (go_at_call 10; with_reducible exact Calls.quiet_of_same (retStill c2 _)))
          replace HS := Lib.hid (HS.out.step (belowN _ nq))
          go_wp2_with fail
          repeat (first
            | (with_reducible refine c3.calls ?_; try go_wp2_with fail)
            | (with_reducible refine c4.calls ?_; try go_wp2_with fail)
            | (with_reducible refine c5.calls ?_; try go_wp2_with fail)
            | (with_reducible refine c6.calls ?_; try go_wp2_with fail)
            | (with_reducible refine c7.calls ?_; try go_wp2_with fail)
            | (with_reducible refine c8.calls ?_; try go_wp2_with fail)
            | (with_reducible refine c8.calls ?_; try go_wp2_with fail)
            | (with_reducible refine c10.calls ?_; try go_wp2_with fail)
            | (with_reducible refine c11.calls ?_; try go_wp2_with fail)
            | (with_reducible refine awake_mak.calls HS.out ?_; intro wz hz; replace HS := Lib.hid hz; clear hz; try go_wp2_with fail))
          go_ret
          exact ⟨rfl, HS.out⟩
    · clear HQ
      by_cases g1 : x < y
      · have t6 : decide (x < y) = true := decide_eq_true g1
        by_cases g2 : z < u
        · have t7 : decide (z < u) = true := decide_eq_true g2
          cases p
          · clear HP
            go_enter Try.func5, Try.ntmps5
            go_wp2_with fail
            go_quiet (first
              | (go_at_call 10; with_reducible exact Calls.quiet_of_same (retStill c1 _))
              | (go_at_call 10; with_reducible exact Calls.quiet_of_same (retStill c2 _)))
            replace HS := Lib.hid (HS.out.step (belowN _ nq))
            go_wp2_with fail
            repeat (first
              | (with_reducible refine c3.calls ?_; try go_wp2_with fail)
              | (with_reducible refine c4.calls ?_; try go_wp2_with fail)
              | (with_reducible refine c5.calls ?_; try go_wp2_with fail)
              | (with_reducible refine c6.calls ?_; try go_wp2_with fail)
              | (with_reducible refine c7.calls ?_; try go_wp2_with fail)
              | (with_reducible refine c8.calls ?_; try go_wp2_with fail)
              | (with_reducible refine c8.calls ?_; try go_wp2_with fail)
              | (with_reducible refine c10.calls ?_; try go_wp2_with fail)
              | (with_reducible refine c11.calls ?_; try go_wp2_with fail)
              | (with_reducible refine awake_mak.calls HS.out ?_; intro wz hz; replace HS := Lib.hid hz; clear hz; try go_wp2_with fail))
            go_ret
            exact ⟨rfl, HS.out⟩
          · obtain rfl := HP.out g1 g2 rfl
            clear HP
            go_enter Try.func5, Try.ntmps5
            go_wp2_with fail
            go_quiet (first
              | (go_at_call 10; with_reducible exact Calls.quiet_of_same (retStill c1 _))
              | (go_at_call 10; with_reducible exact Calls.quiet_of_same (retStill c2 _)))
            replace HS := Lib.hid (HS.out.step (belowN _ nq))
            go_wp2_with fail
            repeat (first
              | (with_reducible refine c3.calls ?_; try go_wp2_with fail)
              | (with_reducible refine c4.calls ?_; try go_wp2_with fail)
              | (with_reducible refine c5.calls ?_; try go_wp2_with fail)
              | (with_reducible refine c6.calls ?_; try go_wp2_with fail)
              | (with_reducible refine c7.calls ?_; try go_wp2_with fail)
              | (with_reducible refine c8.calls ?_; try go_wp2_with fail)
              | (with_reducible refine c8.calls ?_; try go_wp2_with fail)
              | (with_reducible refine c10.calls ?_; try go_wp2_with fail)
              | (with_reducible refine c11.calls ?_; try go_wp2_with fail)
              | (with_reducible refine awake_mak.calls HS.out ?_; intro wz hz; replace HS := Lib.hid hz; clear hz; try go_wp2_with fail))
            go_ret
            exact ⟨rfl, HS.out⟩
        · have t7 : decide (z < u) = false := decide_eq_false g2
          clear HP
          go_enter Try.func5, Try.ntmps5
          go_wp2_with fail
          go_quiet (first
            | (go_at_call 10; with_reducible exact Calls.quiet_of_same (retStill c1 _))
            | (go_at_call 10; with_reducible exact Calls.quiet_of_same (retStill c2 _)))
          replace HS := Lib.hid (HS.out.step (belowN _ nq))
          go_wp2_with fail
          repeat (first
            | (with_reducible refine c3.calls ?_; try go_wp2_with fail)
            | (with_reducible refine c4.calls ?_; try go_wp2_with fail)
            | (with_reducible refine c5.calls ?_; try go_wp2_with fail)
            | (with_reducible refine c6.calls ?_; try go_wp2_with fail)
            | (with_reducible refine c7.calls ?_; try go_wp2_with fail)
            | (with_reducible refine c8.calls ?_; try go_wp2_with fail)
            | (with_reducible refine c8.calls ?_; try go_wp2_with fail)
            | (with_reducible refine c10.calls ?_; try go_wp2_with fail)
            | (with_reducible refine c11.calls ?_; try go_wp2_with fail)
            | (with_reducible refine awake_mak.calls HS.out ?_; intro wz hz; replace HS := Lib.hid hz; clear hz; try go_wp2_with fail))
          go_ret
          exact ⟨rfl, HS.out⟩
      · have t6 : decide (x < y) = false := decide_eq_false g1
        clear HP
        go_enter Try.func5, Try.ntmps5
        go_wp2_with fail
        go_quiet (first
          | (go_at_call 10; with_reducible exact Calls.quiet_of_same (retStill c1 _))
          | (go_at_call 10; with_reducible exact Calls.quiet_of_same (retStill c2 _)))
        replace HS := Lib.hid (HS.out.step (belowN _ nq))
        go_wp2_with fail
        repeat (first
          | (with_reducible refine c3.calls ?_; try go_wp2_with fail)
          | (with_reducible refine c4.calls ?_; try go_wp2_with fail)
          | (with_reducible refine c5.calls ?_; try go_wp2_with fail)
          | (with_reducible refine c6.calls ?_; try go_wp2_with fail)
          | (with_reducible refine c7.calls ?_; try go_wp2_with fail)
          | (with_reducible refine c8.calls ?_; try go_wp2_with fail)
          | (with_reducible refine c8.calls ?_; try go_wp2_with fail)
          | (with_reducible refine c10.calls ?_; try go_wp2_with fail)
          | (with_reducible refine c11.calls ?_; try go_wp2_with fail)
          | (with_reducible refine awake_mak.calls HS.out ?_; intro wz hz; replace HS := Lib.hid hz; clear hz; try go_wp2_with fail))
        go_ret
        exact ⟨rfl, HS.out⟩
set_option maxRecDepth 100000 in
set_option maxHeartbeats 4000000 in
theorem core_big0 (s : ByteArray) (a b c d n : Int) (hb : 500 < s.size) (w : World) :
    Calls Try.prog 5 #[.string s, .agg #[.int .i64 a, .int .i64 b], .agg #[.int .i64 c, .int .i64 d], .int .i64 n] w fun x w' => x = .returned (.bool true) ∧ Since w w' := by
  have HS := Lib.hid (Since.alloc (Since.alloc (Since.refl w) (.cells #[.int .i64 a, .int .i64 b] 36)) (.cells #[.int .i64 c, .int .i64 d] 36))
  have t1 : decide ((500 : Int) < (s.size : Int)) = true := decide_eq_true (by omega)
  clear hb
  go_enter Try.func5, Try.ntmps5
  go_wp2_with fail
  repeat (first
    | (with_reducible refine awake_mak.calls HS.out ?_; intro wz hz; replace HS := Lib.hid hz; clear hz; try go_wp2_with fail))
  go_ret
  exact ⟨rfl, HS.out⟩
theorem of_any (a b : Int) : ∃ x y : Nat, Sp x y ∧ Ret 10 #[.int .i64 a, .int .i64 b] (.complex .f64 (fl (x : Int)) (fl (y : Int))) := by
  by_cases h : MayD a b
  · have h2 := h
    obtain ⟨m1, m2, m3⟩ := h2
    obtain ⟨x, rfl⟩ := Int.eq_ofNat_of_zero_le m1
    obtain ⟨y, rfl⟩ := Int.eq_ofNat_of_zero_le (show 0 ≤ b by omega)
    exact ⟨x, y, ⟨by omega, by omega⟩, of_yes x y ⟨by omega, by omega⟩⟩
  · refine ⟨0, 0, by decide, ?_⟩
    have h9 := of_no a b h
    rw [show fl (((0 : Nat) : Int)) = 0 from fl0]
    exact h9
set_option maxRecDepth 100000 in
theorem walk (w : World) (s : ByteArray) (a b c d n : Int) (_w0 : s.size ≤ maxLen) (_wa : (Lit.int .i64 a).wf = true) (_wb : (Lit.int .i64 b).wf = true) (_wc : (Lit.int .i64 c).wf = true) (_wd : (Lit.int .i64 d).wf = true) (w3 : (Lit.int .i64 n).wf = true) :
    Calls Try.prog 5 #[.string s, .agg #[.int .i64 a, .int .i64 b], .agg #[.int .i64 c, .int .i64 d], .int .i64 n] w fun e w' => e = .returned (.bool true) ∧ Below w.heap.size w w' := by
  by_cases hb : 500 < s.size
  · exact core_big0 s a b c d n hb w
  · obtain ⟨x, y, h1, c1⟩ := of_any a b
    obtain ⟨z, u, h2, c2⟩ := of_any c d
    have hn := i64_of_wf w3
    have hs := shift_ret x y n h1 hn
    have e1 := h1.isA
    have e2 := h1.isB
    have o1 : ∀ v : Nat, v ≤ 65552 → (FloatKind.f64.format.order (fl (v : Int)) (fl (v : Int)) == some .eq) = true := fun v hv => by rw [ord_at _ _ (by omega) (by omega), decide_eq_true rfl]
    have h1' := h1
    have h2' := h2
    obtain ⟨l1, l2⟩ := h1'
    obtain ⟨l3, l4⟩ := h2'
    have hX : y ≤ s.size → (cutS s x y).size = y - x := fun h => by
      unfold cutS
      rw [if_pos h, size_bs, List.length_take, List.length_drop]
      have : s.data.toList.length = s.size := rfl
      omega
    have hpr : x < y → z < u → decide (y ≤ z ∨ u ≤ x) = true → decide (z ≤ x ∧ y ≤ u) = false := fun g1 g2 g3 => by
      have := of_decide_eq_true g3
      exact decide_eq_false (by omega)
    by_cases hm : MayD (x + n) (y + n)
    · rw [if_pos hm] at hs
      have hm2 := hm
      obtain ⟨m1, m2, m3⟩ := hm2
      obtain ⟨x2, hx2⟩ := Int.eq_ofNat_of_zero_le m1
      obtain ⟨y2, hy2⟩ := Int.eq_ofNat_of_zero_le (show 0 ≤ (y : Int) + n by omega)
      refine core w s _ a b c d n x y z u _ _ _ _ _ _ (by omega) h1 h2 hX _ _ _ rfl c1 c2 (from_ret _ _ h1) (to_ret _ _ h1) (from_ret _ _ h2) (to_ret _ _ h2) (cut_ret s x y h1 (by omega) _ rfl) hs (fun _ k1 k2 => ?_) (by rw [o1 x (by omega), o1 y (by omega)]; rfl) (apart_ret _ _ _ _ h1 h2 _ rfl) (inside_ret _ _ _ _ h1 h2 _ rfl) hpr
      have h9 := shift_ret x2 y2 (-n) ⟨by omega, by omega⟩ (by omega)
      rw [← hx2, ← hy2, show (x : Int) + n + -n = x by omega, show (y : Int) + n + -n = y by omega, if_pos h1.may] at h9
      exact h9
    · rw [if_neg hm] at hs
      have o0 : (FloatKind.f64.format.order 0 0 == some .eq && FloatKind.f64.format.order 0 0 == some .eq) = true := by decide +kernel
      exact core w s _ a b c d n x y z u _ _ _ _ _ _ (by omega) h1 h2 hX true _ _ o0 c1 c2 (from_ret _ _ h1) (to_ret _ _ h1) (from_ret _ _ h2) (to_ret _ _ h2) (cut_ret s x y h1 (by omega) _ rfl) hs (fun h => by cases h) (by rw [o1 x (by omega), o1 y (by omega)]; rfl) (apart_ret _ _ _ _ h1 h2 _ rfl) (inside_ret _ _ _ _ h1 h2 _ rfl) hpr

set_option maxRecDepth 100000 in
theorem own : ownKnob Try.prog.godebug = none := by kernel_rfl
set_option maxRecDepth 100000 in
theorem laidOut : laidOutB Try.prog = true := by kernel_rfl

set_option maxRecDepth 100000 in
theorem lifted (os : Os) (started : os.Started) (H : Type) (enc : TypeId × Value → H) :
    ReturnsInHanded {} Try.checked os 5 .any (Rows.spanBackSpec.pre6 enc Try.prog Try.f5 Rows.spanBackRow.domain false) (Rows.spanBackSpec.post enc Try.prog Try.f5 false true false false) := by
  refine returnsInHanded_of_change (C := Try.checked) own started (by kernel_rfl) Try.func5
    (ChangeSpec.witness6 (enc := enc) (C := Try.checked) false ⟨#[], #[.string ⟨#[]⟩, .agg #[.int .i64 0, .int .i64 0], .agg #[.int .i64 0, .int .i64 0], .int .i64 0], []⟩ 8 (by kernel_rfl) (by kernel_rfl) (by kernel_rfl) (by kernel_rfl)) ?_
  intro W base args ds gs before hval0 hW hcnd _
  have hval : ∀ (j : Nat) t v, Try.f5.params[j]? = some t → args[j]? = some v → Value.okWide Try.prog W .any base t v := hval0
  have hW' := hW
  obtain ⟨p, q, hA0, hV, rfl, hfz, hnd⟩ := hW
  have hA : DataW.TrodAll enc Try.prog W 0 (fun _ => true) true Try.f5.params.toList args.toList ds p := hA0
  rw [Try.params5] at hA hval
  obtain ⟨v0, vs0, d0, ds0, p0, q0, hargs, rfl, rfl, h0, r0⟩ := trodAll_cons hA
  obtain ⟨v1, vs1, d1, ds1, p1, q1, rfl, rfl, rfl, h1, r1⟩ := trodAll_cons r0
  obtain ⟨v2, vs2, d2, ds2, p2, q2, rfl, rfl, rfl, h2, r2⟩ := trodAll_cons r1
  obtain ⟨v3, vs3, d3, ds3, p3, q3, rfl, rfl, rfl, h3, r3⟩ := trodAll_cons r2
  obtain ⟨rfl, rfl, rfl⟩ := trodAll_nil r3
  obtain rfl : args = #[v0, v1, v2, v3] := by cases args; simp_all
  obtain ⟨rfl, rfl⟩ := trodVars_none hV
  obtain ⟨a0, rfl, rfl, rfl, w0⟩ := Go.ChangeMaps.open_string Try.underlying9 (hval 0 9 v0 rfl rfl) h0
  have h1k := h1
  have hlt1 : ∀ x ∈ p1, x.block < W.heap.size := fun x hx => by simpa using hW'.lt x (by simp [hx])
  obtain ⟨a1_x, a1_y, rfl, f1_0, f1_1⟩ := pair_arg (hval 1 36 v1 rfl rfl) h1 hlt1
  have h2k := h2
  have hlt2 : ∀ x ∈ p2, x.block < W.heap.size := fun x hx => by simpa using hW'.lt x (by simp [hx])
  obtain ⟨a2_x, a2_y, rfl, f2_0, f2_1⟩ := pair_arg (hval 2 36 v2 rfl rfl) h2 hlt2
  obtain ⟨a3, rfl, rfl, rfl, w3⟩ := open_int Try.underlying3 (hval 3 3 v3 rfl rfl) h3
  clear hA0 hval0
  simp only [List.append_nil] at hW'
  refine (walk W a0 a1_x a1_y a2_x a2_y a3 w0 f1_0 f1_1 f2_0 f2_1 w3).mono fun e W' ⟨he, hg⟩ => ?_
  subst he
  exact ⟨_, rfl, _, _, _, _, _, [], hW', (trodAll_cons_mk (shut_bool Try.underlying4 _) trodAll_mk0), (trodAll_cons_mk (Go.ChangeMaps.shut_string Try.underlying9 w0) (trodAll_cons_mk (Below.trod laidOut (by kernel_rfl) (of_decide_eq_true (by kernel_rfl)) h1k hg hlt1) (trodAll_cons_mk (Below.trod laidOut (by kernel_rfl) (of_decide_eq_true (by kernel_rfl)) h2k hg hlt2) (trodAll_cons_mk (shut_int Try.underlying3 w3) trodAll_mk0)))), rfl, hg.frame _, fun h => by cases h⟩

set_option maxRecDepth 100000 in
theorem over : Rows.spanBackRow.holds Try.pinned (OpenSpec.ofChange Rows.spanBackSpec) :=
  OpenClaim.holds_of_wide 5 Try.f5 rfl rfl rfl rfl rfl rfl rfl ⟨rfl, rfl, rfl, rfl, rfl⟩ rfl rfl rfl rfl rfl (by kernel_rfl) Try.func5 (by kernel_rfl)
    (of_decide_eq_true (by kernel_rfl)) (by unfold Func.isWrapper; first | (rw [if_pos (by decide +kernel)]; kernel_rfl) | (rw [if_neg (by decide +kernel)]; exact ⟨rfl, rfl⟩))
    (fun os started H enc _ => lifted os started H enc)

theorem proved : Rows.SpanBackSaid :=
  over

end Go.Proofs.Ytlmnidpcdibnkaa.spanBack
