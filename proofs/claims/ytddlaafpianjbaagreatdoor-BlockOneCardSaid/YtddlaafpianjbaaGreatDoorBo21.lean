import Derived.Test.YtddlaafpianjbaaGreatDoorBo16
import Derived.Test.YtddlaafpianjbaaGreatDoorBo9
set_option maxRecDepth 100000
namespace Go.Proofs.YtddlaafpianjbaaGreatDoor
open Go.RowKit
namespace Span
open Flt
theorem conv_if (n:Int) (w:World):(convert 3 177 (.int .i64 n)).run Tryz.prog w = .ok (.float .f64 (fl n)) w:=by
 simp [convert,run_underlying Tryz.underlying177,run_underlying Tryz.underlying3,Conv.intToFloat,fl]
def MayD (a b:Int):Prop:=0 <= a /\ a <= b /\ b <= 65552
instance (a b:Int):Decidable (MayD a b):=by unfold MayD; infer_instance
def Sp (a b:Nat):Prop:=a <= b /\ b <= 65552
instance (a b:Nat):Decidable (Sp a b):=by unfold Sp; infer_instance
set_option maxHeartbeats 1000000 in
theorem of_yes (a b:Nat) (h:Sp a b):Ret 119 #[.int .i64 (a:Int),.int .i64 (b:Int)] (.complex .f64 (fl (a:Int)) (fl (b:Int))):=by
 intro w
 obtain ⟨h1,h2⟩:=h
 have v1:=conv_if (a:Int)
 have v2:=conv_if (b:Int)
 generalize fl (a:Int) = A at v1 ⊢
 generalize fl (b:Int) = B at v2 ⊢
 have t1:decide ((a:Int) < 0) = false:=decide_eq_false (by omega)
 have t2:decide ((65552:Int) < (b:Int)) = false:=decide_eq_false (by omega)
 have t3:decide ((b:Int) < (a:Int)) = false:=decide_eq_false (by omega)
 go_enter Tryz.func119,Tryz.ntmps119
 go_wp2_with fail
 go_ret
 exact ⟨rfl,rfl⟩
def total:List (Nat × Nat) -> Nat
 | [] => 0
 | p :: l => (p.2 - p.1) + total l
end Span
end Go.Proofs.YtddlaafpianjbaaGreatDoor
