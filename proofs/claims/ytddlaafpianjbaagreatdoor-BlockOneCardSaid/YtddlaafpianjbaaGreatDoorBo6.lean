import Derived.Test.YtddlaafpianjbaaGreatDoorBo4
import Derived.Deep.AppendLies
set_option maxRecDepth 100000
namespace Go.Proofs.YtddlaafpianjbaaGreatDoor
open Go.RowKit
theorem step_one {T E:TypeId} {z:Value} {bytes:Nat} (I:ElemIs T E z 1 bytes) {ops:Array Oper} {o:Oper} {a:Act} {K:Act -> World -> Prop} {Q:Exit -> Act -> World -> Prop} {E':Prop} (hgd:o.guard = none) (s x:Operand)
   (ho:o.op = .call { callee:=.builtin .append,args:=#[s,x],argTypes:=#[T,T] })
   (w0 w:World) (v:Value) (n:Nat) (xs:List Value) (hs:a.eval s = v) (hown:w.ownsRow w0.heap.size E 1 v n xs) (hS:Since w0 w)
   (g0:Nat) (y:Value) (hx:a.eval x = .slice (some ⟨g0,0,none⟩) 1 1) (hc:w.cell? ⟨g0,0,none⟩ = some y) (h1:y.oneCell' = true) (hn:n <= 1099511627776) (hby:bytes <= 64)
   (h:∀ v' w',w'.ownsRow w0.heap.size E 1 v' (n + 1) (xs ++ [y]) -> Since w0 w' -> K (a.put o.dst v') w') :
   if Region.wanted o (yielded ops a.tmps) = true then Oper.wp Tryz.prog o a w K Q else E':=by
 obtain ⟨ht,hi,hz,hs0⟩:=I
 obtain ⟨i,hi0,hz0,hz1,hz2⟩:=info_parts hi
 refine step_append_lies w hgd s x T ho w0.heap.size E i z 1 bytes ht hi0 hz0 hz1 hz2 hz hs0 v n xs hs hown ⟨g0,0,none⟩ 1 1 [y] hx rfl ?_ ?_ (by decide) (by unfold maxLen; omega) ?_ (Below.size hS) w.heap.size rfl ?_
 · intro j u hu
   cases j with
   | zero =>
     have hadd:(⟨g0,0,none⟩:Addr).add 0 = ⟨g0,0,none⟩:=by unfold Addr.add; split <;> simp_all
     rw [hadd,hc]; simpa using hu
   | succ j => simp at hu
 · intro u hu
   simp at hu
   subst hu; exact h1
 · exact Nat.le_trans (Nat.mul_le_mul (show n + 1 <= 1099511627777 by omega) hby) (by decide)
 · intro g cap w' hown' hg hat hlt
   refine h _ w' hown' ?_
   exact Below.grown hS hg (Below.size hS) (fun k hk => (hown.lt k hk).1)
end Go.Proofs.YtddlaafpianjbaaGreatDoor
