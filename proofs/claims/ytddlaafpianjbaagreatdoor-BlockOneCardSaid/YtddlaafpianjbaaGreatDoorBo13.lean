import Derived.Test.YtddlaafpianjbaaGreatDoorBo8
import Derived.Test.YtddlaafpianjbaaGreatDoorBo7
import Derived.StillTailTactics
set_option maxRecDepth 100000
namespace Go.Proofs.YtddlaafpianjbaaGreatDoor
open Go.RowKit
namespace Rnd
theorem Ret.still {f:Nat} {args:Array Value} {v:Value} (h:Ret f args v) (w:World):Calls Tryz.prog f args w fun e w' => e = .returned v /\ w' = w:=(h w).mono fun _ _ ⟨he,hw⟩ => ⟨he,hw.symm⟩
def mixP (fac:Nat -> Nat) (l:List UInt8) (i:Nat):Nat -> Nat
 | 0 => 0
 | n + 1 => mixP fac l i n ^^^ Gf.mul (ent l (4 * (i / 4) + (i % 4 + n) % 4)) (fac n)
theorem mixP_lt (fac:Nat -> Nat) (l:List UInt8) (i n:Nat):mixP fac l i n < 256:=by
 induction n with
 | zero => exact Nat.zero_lt_succ _
 | succ n ih => exact Nat.xor_lt_two_pow (n:=8) ih (Gf.mul_lt _ _ (ent_lt _ _))
def mixL (fac:Nat -> Nat) (l:List UInt8):List UInt8:=mk16 fun i => mixP fac l i 4
theorem mixP_succ (fac:Nat -> Nat) (l:List UInt8) (r c n q:Nat) (hr:r < 4) (_hc:c < 4) (hq:q = (r + n) % 4):mixP fac l (4 * c + r) (n + 1) = mixP fac l (4 * c + r) n ^^^ Gf.mul (ent l (4 * c + q)) (fac n):=by
 rw [mixP,show (4 * c + r) / 4 = c from by omega,show (4 * c + r) % 4 = r from by omega,hq]
end Rnd
end Go.Proofs.YtddlaafpianjbaaGreatDoor
