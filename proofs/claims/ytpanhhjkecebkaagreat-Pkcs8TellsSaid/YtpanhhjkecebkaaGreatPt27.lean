import Derived.Test.YtpanhhjkecebkaaGreatPt20
import Derived.Test.YtpanhhjkecebkaaGreatPt10
set_option maxRecDepth 100000
namespace Go.Proofs.YtpanhhjkecebkaaGreat
open Go.RowKit
namespace Span
open Flt
theorem is0:Is 0 0:=by
 have h:=fl_is 0 (by decide);have e:fl 0 = 0:=by decide +kernel
 rwa [e] at h
theorem is_most:Is 4679241112349573120 65552:=by
 have h:=fl_is 65552 (by decide);have e:fl 65552 = 4679241112349573120:=by decide +kernel
 rwa [e] at h
theorem conv_fi (b:Nat) (n:Int) (hb:Is b n) (h:-9223372036854775808 <= n /\ n <= 9223372036854775807) (w:World):(convert 155 3 (.float .f64 b)).run Tryz.prog w = .ok (.int .i64 n) w :=
 run_convert_float_int w 155 3 .f64 .i64 b n (by rw [Tryz.underlying155]; rfl) Tryz.underlying3 (toInt_is b n hb h)
theorem conv_if (n:Int) (w:World):(convert 3 155 (.int .i64 n)).run Tryz.prog w = .ok (.float .f64 (fl n)) w:=by
 simp [convert,run_underlying Tryz.underlying155,run_underlying Tryz.underlying3,Conv.intToFloat,fl]
theorem cmp_ge (x y:Int) (h:y <= x):(compare x y == .gt || compare x y == .eq) = true:=by
 show (compareOfLessAndEq x y == .gt || compareOfLessAndEq x y == .eq) = true
 unfold compareOfLessAndEq;rw [if_neg (by omega)]
 by_cases h:x = y
 · rw [if_pos h]; rfl
 · rw [if_neg h]; rfl
theorem cmp_ge_f (x y:Int) (h:x < y):(compare x y == .gt || compare x y == .eq) = false:=by
 show (compareOfLessAndEq x y == .gt || compareOfLessAndEq x y == .eq) = false
 unfold compareOfLessAndEq;rw [if_pos h]; rfl
theorem cmp_le (x y:Int) (h:x <= y):(compare x y == .lt || compare x y == .eq) = true:=by
 show (compareOfLessAndEq x y == .lt || compareOfLessAndEq x y == .eq) = true
 unfold compareOfLessAndEq
 by_cases h1:x < y
 · rw [if_pos h1]; rfl
 · rw [if_neg h1,if_pos (by omega)]; rfl
theorem cmp_le_f (x y:Int) (h:y < x):(compare x y == .lt || compare x y == .eq) = false:=by
 show (compareOfLessAndEq x y == .lt || compareOfLessAndEq x y == .eq) = false
 unfold compareOfLessAndEq;rw [if_neg (by omega),if_neg (by omega)]; rfl
theorem cmp_eq (x y:Int):(compare x y == .eq) = decide (x = y):=by
 show (compareOfLessAndEq x y == .eq) = _
 unfold compareOfLessAndEq
 by_cases h:x = y
 · subst h;rw [if_neg (by omega),if_pos rfl,decide_eq_true rfl]; rfl
 · rw [decide_eq_false h]
   by_cases h1:x < y
   · rw [if_pos h1]; rfl
   · rw [if_neg h1,if_neg h]; rfl
set_option maxHeartbeats 1000000 in
theorem offset_yes (b:Nat) (n:Int) (hb:Is b n) (h1:0 <= n) (h2:n <= 65552):Ret 151 #[.float .f64 b] (.bool true):=by
 intro w;have o1:=order_is b _ n _ hb is0;have o2:=order_is b _ n _ hb is_most;have o3:=order_is _ b n n (fl_is n (by omega)) hb;have p1:=cmp_ge n 0 h1;have p2:=cmp_le n 65552 h2;have p3:=cmp_eq n n;rw [decide_eq_true rfl] at p3;have v1:=conv_fi b n hb (by omega);have v2:=conv_if n;generalize compare n 0 = C1 at o1 p1;generalize compare n 65552 = C2 at o2 p2;generalize compare n n = C3 at o3 p3;generalize fl n = F at o3 v2;clear h1 h2 hb
 go_enter Tryz.func151,Tryz.ntmps151
 go_wp2_with fail;go_ret;exact ⟨rfl,rfl⟩
theorem offset_neg (b:Nat) (C:Ordering) (o1:FloatKind.f64.format.order b 0 = some C) (p1:(C == .gt || C == .eq) = false):Ret 151 #[.float .f64 b] (.bool false):=by
 intro w
 go_enter Tryz.func151,Tryz.ntmps151
 go_wp2_with fail;go_ret;exact ⟨rfl,rfl⟩
theorem offset_far (b:Nat) (C D:Ordering) (o1:FloatKind.f64.format.order b 0 = some C) (p1:(C == .gt || C == .eq) = true) (o2:FloatKind.f64.format.order b 4679241112349573120 = some D) (p2:(D == .lt || D == .eq) = false):Ret 151 #[.float .f64 b] (.bool false):=by
 intro w
 go_enter Tryz.func151,Tryz.ntmps151
 go_wp2_with fail;go_ret;exact ⟨rfl,rfl⟩
theorem offset_ret (b:Nat) (n:Int) (hb:Is b n) (q:Bool) (hq:q = decide (0 <= n /\ n <= 65552)):Ret 151 #[.float .f64 b] (.bool q):=by
 subst hq;have o1:=order_is b _ n _ hb is0;have o2:=order_is b _ n _ hb is_most
 by_cases h1:0 <= n
 · by_cases h2:n <= 65552
   · rw [decide_eq_true ⟨h1,h2⟩];exact offset_yes b n hb h1 h2
   · rw [decide_eq_false (fun h => h2 h.2)];exact offset_far b _ _ o1 (cmp_ge n 0 h1) o2 (cmp_le_f n 65552 (by omega))
 · rw [decide_eq_false (fun h => h1 h.1)];exact offset_neg b _ o1 (cmp_ge_f n 0 (by omega))
theorem may_f1 (A B:Nat) (c1:Ret 151 #[.float .f64 A] (.bool false)):Ret 117 #[.complex .f64 A B] (.bool false):=by
 intro w
 go_enter Tryz.func117,Tryz.ntmps117
 go_wp2_with fail;refine (c1).calls ?_;go_wp2_with fail;go_ret;exact ⟨rfl,rfl⟩
theorem may_f2 (A B:Nat) (c1:Ret 151 #[.float .f64 A] (.bool true)) (c2:Ret 151 #[.float .f64 B] (.bool false)):Ret 117 #[.complex .f64 A B] (.bool false):=by
 intro w
 go_enter Tryz.func117,Tryz.ntmps117
 go_wp2_with fail;refine (c1).calls ?_;go_wp2_with fail;refine (c2).calls ?_;go_wp2_with fail;go_ret;exact ⟨rfl,rfl⟩
theorem may_tt (A B:Nat) (C:Ordering) (q:Bool) (c1:Ret 151 #[.float .f64 A] (.bool true)) (c2:Ret 151 #[.float .f64 B] (.bool true)) (o1:FloatKind.f64.format.order A B = some C) (p1:(C == .lt || C == .eq) = q):Ret 117 #[.complex .f64 A B] (.bool q):=by
 intro w
 go_enter Tryz.func117,Tryz.ntmps117
 go_wp2_with fail;refine (c1).calls ?_;go_wp2_with fail;refine (c2).calls ?_;go_wp2_with fail;go_ret;exact ⟨rfl,rfl⟩
def MayD (a b:Int):Prop:=0 <= a /\ a <= b /\ b <= 65552
instance (a b:Int):Decidable (MayD a b):=by unfold MayD; infer_instance
theorem may_ret (A B:Nat) (a b:Int) (hA:Is A a) (hB:Is B b) (q:Bool) (hq:q = decide (MayD a b)):Ret 117 #[.complex .f64 A B] (.bool q):=by
 subst hq;have c1:=offset_ret A a hA _ rfl;have c2:=offset_ret B b hB _ rfl
 by_cases h1:0 <= a /\ a <= 65552
 · rw [decide_eq_true h1] at c1
   by_cases h2:0 <= b /\ b <= 65552
   · rw [decide_eq_true h2] at c2;refine may_tt A B _ _ c1 c2 (order_is A B a b hA hB) ?_
     by_cases h3:a <= b
     · rw [cmp_le a b h3,decide_eq_true (show MayD a b from ⟨h1.1,h3,h2.2⟩)]
     · rw [cmp_le_f a b (by omega),decide_eq_false (fun h:MayD a b => h3 h.2.1)]
   · rw [decide_eq_false h2] at c2;rw [decide_eq_false (fun h:MayD a b => h2 ⟨by have:=h.1; have:=h.2.1; omega,h.2.2⟩)];exact may_f2 A B c1 c2
 · rw [decide_eq_false h1] at c1;rw [decide_eq_false (fun h:MayD a b => h1 ⟨h.1,by have:=h.2.1; have:=h.2.2; omega⟩)];exact may_f1 A B c1
def Sp (a b:Nat):Prop:=a <= b /\ b <= 65552
instance (a b:Nat):Decidable (Sp a b):=by unfold Sp; infer_instance
theorem Sp.may {a b:Nat} (h:Sp a b):MayD (a:Int) (b:Int):=by
 obtain ⟨h1,h2⟩:=h;exact ⟨by omega,by omega,by omega⟩
theorem Sp.isA {a b:Nat} (h:Sp a b):Is (fl (a:Int)) (a:Int):=fl_is _ (by obtain ⟨h1,h2⟩:=h; omega)
theorem Sp.isB {a b:Nat} (h:Sp a b):Is (fl (b:Int)) (b:Int):=fl_is _ (by obtain ⟨h1,h2⟩:=h; omega)
def cx (a b:Nat):Value:=.complex .f64 (fl (a:Int)) (fl (b:Int))
theorem may_sp {a b:Nat} (h:Sp a b):Ret 117 #[.complex .f64 (fl (a:Int)) (fl (b:Int))] (.bool true):=may_ret _ _ _ _ h.isA h.isB _ (decide_eq_true h.may).symm
set_option maxHeartbeats 1000000 in
theorem of_yes (a b:Nat) (h:Sp a b):Ret 82 #[.int .i64 (a:Int),.int .i64 (b:Int)] (.complex .f64 (fl (a:Int)) (fl (b:Int))):=by
 intro w;obtain ⟨h1,h2⟩:=h;have v1:=conv_if (a:Int);have v2:=conv_if (b:Int);generalize fl (a:Int) = A at v1 ⊢;generalize fl (b:Int) = B at v2 ⊢;have t1:decide ((a:Int) < 0) = false:=decide_eq_false (by omega);have t2:decide ((65552:Int) < (b:Int)) = false:=decide_eq_false (by omega);have t3:decide ((b:Int) < (a:Int)) = false:=decide_eq_false (by omega)
 go_enter Tryz.func82,Tryz.ntmps82
 go_wp2_with fail;go_ret;exact ⟨rfl,rfl⟩
theorem from_ret (a b:Nat) (h:Sp a b):Ret 83 #[.complex .f64 (fl (a:Int)) (fl (b:Int))] (.int .i64 (a:Int)):=by
 intro w;have c1:=may_sp h;have v1:=conv_fi _ _ h.isA (by obtain ⟨h1,h2⟩:=h; omega);generalize fl (a:Int) = A at c1 v1 ⊢;generalize fl (b:Int) = B at c1 v1 ⊢
 go_enter Tryz.func83,Tryz.ntmps83
 go_wp2_with fail;refine (c1).calls ?_;go_wp2_with fail;go_ret;exact ⟨rfl,rfl⟩
theorem to_ret (a b:Nat) (h:Sp a b):Ret 84 #[.complex .f64 (fl (a:Int)) (fl (b:Int))] (.int .i64 (b:Int)):=by
 intro w;have c1:=may_sp h;have v1:=conv_fi _ _ h.isB (by obtain ⟨h1,h2⟩:=h; omega);generalize fl (a:Int) = A at c1 v1 ⊢;generalize fl (b:Int) = B at c1 v1 ⊢
 go_enter Tryz.func84,Tryz.ntmps84
 go_wp2_with fail;refine (c1).calls ?_;go_wp2_with fail;go_ret;exact ⟨rfl,rfl⟩
def cutS (s:ByteArray) (a b:Nat):ByteArray:=if b <= s.size then bs ((s.data.toList.drop a).take (b - a)) else ⟨#[]⟩
theorem cut_core (s:ByteArray) (a b:Nat) (X:ByteArray) (A B:Nat) (hb:b <= s.size) (hz:s.size <= 1000000) (hab:a <= b) (c1:Ret 83 #[.complex .f64 A B] (.int .i64 (a:Int))) (c2:Ret 84 #[.complex .f64 A B] (.int .i64 (b:Int))) (c3:Ret 119 #[.string s,.int .i64 (a:Int),.int .i64 ((b:Int) - (a:Int))] (.string X)):Ret 88 #[.string s,.complex .f64 A B] (.string X):=by
 intro w;have t1:decide ((s.size:Int) < (b:Int)) = false:=decide_eq_false (by omega)
 go_enter Tryz.func88,Tryz.ntmps88
 go_wp2_with fail;refine (c2).calls ?_;go_wp2_with fail;refine (c1).calls ?_;go_wp2_with fail;refine (c2).calls ?_;go_wp2_with fail;refine (c1).calls ?_;go_wp2_with fail;refine (c3).calls ?_;go_wp2_with fail;go_ret;exact ⟨rfl,rfl⟩
theorem cut_out (s:ByteArray) (_a b:Nat) (A B:Nat) (hb:s.size < b) (c2:Ret 84 #[.complex .f64 A B] (.int .i64 (b:Int))):Ret 88 #[.string s,.complex .f64 A B] (.string ⟨#[]⟩):=by
 intro w;have t1:decide ((s.size:Int) < (b:Int)) = true:=decide_eq_true (by omega)
 go_enter Tryz.func88,Tryz.ntmps88
 go_wp2_with fail;refine (c2).calls ?_;go_wp2_with fail;go_ret;exact ⟨rfl,rfl⟩
theorem cut_ret (s:ByteArray) (a b:Nat) (h:Sp a b) (hz:s.size <= 1000000) (X:ByteArray) (hX:X = cutS s a b):Ret 88 #[.string s,.complex .f64 (fl (a:Int)) (fl (b:Int))] (.string X):=by
 have c1:=from_ret a b h;have c2:=to_ret a b h;obtain ⟨h1,h2⟩:=h;subst hX;unfold cutS
 by_cases hb:b <= s.size
 · rw [if_pos hb];refine cut_core s a b _ _ _ hb hz h1 c1 c2 ?_
   by_cases hab:a = b
   · subst hab;rw [Nat.sub_self,List.take_zero,Int.sub_self];exact fun w => Oct.cut_no s a 0 w (by omega) (by omega)
   · rw [show (b:Int) - (a:Int) = ((b - a:Nat):Int) by omega];exact fun w => Oct.cut_yes s a (b - a) w (by omega) (by omega) (by omega) (by omega)
 · rw [if_neg hb];exact cut_out s a b _ _ (by omega) c2
def total:List (Nat × Nat) -> Nat
 | [] => 0
 | p :: l => (p.2 - p.1) + total l
def SpansS (w:World) (v:Value) (l:List (Nat × Nat)):Prop:=SlR w 1 v l.length (l.map fun p => cx p.1 p.2)
end Span
end Go.Proofs.YtpanhhjkecebkaaGreat
