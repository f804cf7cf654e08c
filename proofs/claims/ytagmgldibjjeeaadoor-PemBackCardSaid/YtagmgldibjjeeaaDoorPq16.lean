import Derived.Test.YtagmgldibjjeeaaDoorPq13
import Derived.Test.YtagmgldibjjeeaaDoorPq11
import Derived.Test.YtagmgldibjjeeaaDoorPq5
import Derived.Deep.CutRange
set_option maxRecDepth 100000
namespace Go.Proofs.YtagmgldibjjeeaaDoor
open Go.RowKit
namespace Pm
theorem w62 (n:Int) (h0:0 <= n) (h1:n < 2 ^ 62):IntKind.i64.wrap n = n:=IntWalk.i64_in _ (by omega)
theorem or16 (a b:Nat) (ha:a < 256) (hb:b < 256):bits .or .i64 ((a:Int) * 65536) ((b:Int) * 256) = (a:Int) * 65536 + (b:Int) * 256 :=
 bits_join .i64 62 (by decide) w62 16 _ _ (by omega) (by omega) (by omega) (by omega) (by omega) (by omega)
theorem or8 (a b c:Nat) (ha:a < 256) (hb:b < 256) (hc:c < 256):bits .or .i64 ((a:Int) * 65536 + (b:Int) * 256) (c:Int) = (a:Int) * 65536 + (b:Int) * 256 + (c:Int) :=
 bits_join .i64 62 (by decide) w62 8 _ _ (by omega) (by omega) (by omega) (by omega) (by omega) (by omega)
theorem and63 (x:Nat) (h:x < 2 ^ 62):bits .and .i64 (x:Int) 63 = ((x % 64:Nat):Int):=by
 have h1:=bits_mask .i64 62 (by decide) w62 6 (by decide) (x:Int) (by omega) (by omega)
 rw [show ((2:Int) ^ 6 - 1) = 63 by decide,show ((2:Int) ^ 6) = 64 by decide] at h1
 rw [h1]
 omega
def alph:ByteArray:=⟨#[65,66,67,68,69,70,71,72,73,74,75,76,77,78,79,80,81,82,83,84,85,86,87,88,89,90,97,98,99,100,101,102,103,104,105,106,107,108,109,110,111,112,113,114,115,116,117,118,119,120,121,122,48,49,50,51,52,53,54,55,56,57,43,47]⟩
theorem alph_list:alph.data.toList = (List.range 64).map sg:=by decide +kernel
theorem alph_at (d:Nat) (h:d < alph.size):alph[d] = sg d:=by
 have h1:alph.data.toList[d]? = some (alph[d]):=by
   rw [List.getElem?_eq_getElem (by simpa using h)]
   rfl
 rw [alph_list,List.getElem?_map,List.getElem?_range (show d < 64 from h)] at h1
 exact (Option.some.inj h1).symm
def grpL (l:List UInt8) (p:Nat):List UInt8:=four (num3 (l.getD p 0) (l.getD (p + 1) 0) (l.getD (p + 2) 0)) (min (l.length - p) 3)
theorem base_app:∀ (k:Nat) (a b:List UInt8),a.length = 3 * k -> baseL (a ++ b) = baseL a ++ baseL b
 | 0,a,b,h => by rw [List.length_eq_zero_iff.1 h]; rfl
 | k + 1,[],_,h => by simp at h
 | k + 1,[_],_,h => by simp at h; omega
 | k + 1,[_,_],_,h => by simp at h; omega
 | k + 1,x :: y :: z :: a,b,h => by
   show baseL (x :: y :: z :: (a ++ b)) = _
   rw [baseL,baseL,base_app k a b (by simp at h; omega),List.append_assoc]
theorem base_next (l:List UInt8) (k:Nat) (h:3 * k < l.length):baseL (l.take (3 * k + 3)) = baseL (l.take (3 * k)) ++ grpL l (3 * k):=by
 have h1:l.take (3 * k + 3) = l.take (3 * k) ++ (l.drop (3 * k)).take 3:=by rw [List.take_add]
 rw [h1,base_app k _ _ (by rw [List.length_take]; omega)]
 congr 1
 unfold grpL
 have g:∀ i,l.getD (3 * k + i) 0 = (l.drop (3 * k)).getD i 0:=fun i => by
   rw [List.getD_eq_getElem?_getD,List.getD_eq_getElem?_getD,List.getElem?_drop]
 have g0:=g 0
 rw [Nat.add_zero] at g0
 rw [g0,g 1,g 2,<- List.length_drop]
 have hn:l.drop (3 * k) ≠ []:=fun e => by
   have:=congrArg List.length e
   rw [List.length_drop] at this
   simp at this
   omega
 match l.drop (3 * k),hn with
 | [a],_ => rfl
 | [a,b],_ => rfl
 | a :: b :: c :: r,_ =>
   show baseL [a,b,c] = four (num3 a b c) (min (r.length + 1 + 1 + 1) 3)
   rw [Nat.min_eq_right (by omega),baseL]
   exact List.append_nil _
def BR (w W:World) (v:Value) (l:List UInt8):Prop:=Rw.Rows W w.heap.size (([]:List Rw.Row) ++ ⟨5,1,v,l.length,l.map fun b => Value.int .u8 b.toNat⟩ :: [])
theorem BR.since {w W W':World} {v:Value} {l:List UInt8} (h:BR w W v l) (hs:Since W W'):BR w W' v l:=Rw.Rows.since h hs
theorem BR.app {w W:World} {v:Value} {l:List UInt8} (c:UInt8) (h:Rw.Rows W w.heap.size (([]:List Rw.Row) ++ ⟨5,1,v,l.length + 1,(l.map fun b => Value.int .u8 b.toNat) ++ (#[.int .u8 (c.toNat:Int)]:Array Value).toList⟩ :: [])):BR w W v (l ++ [c]):=by
 unfold BR
 rw [List.length_append,List.map_append]
 exact h
theorem b_one (x:Int):∀ u ∈ (#[.int .u8 x]:Array Value).toList,u.oneCell' = true:=by
 intro u hu
 simp only [List.mem_cons,List.not_mem_nil,or_false] at hu
 subst hu
 rfl
theorem conv_br {w W:World} {v:Value} {l:List UInt8} (h:BR w W v l) (h0:0 < l.length):∀ dst,Tryd.prog.underlying dst = some .string -> (convert 32 dst v).run Tryd.prog W = .ok (.string (bs l)) W:=by
 have e:strOfNums (l.map fun b => ((b.toNat:Nat):Int)) = bs l:=by
   apply ba_ext
   rw [nums_list,List.map_map,list_bs]
   conv => rhs; rw [<- List.map_id l]
   apply List.map_congr_left
   intro b _
   simp
 rw [<- e]
 refine conv_own W w.heap.size v l.length _ ?_ h0
 rw [List.map_map]
 exact h.get
theorem conv_br0 {w W:World} {v:Value} (h:BR w W v []):∀ dst,Tryd.prog.underlying dst = some .string -> (convert 32 dst v).run Tryd.prog W = .ok (.string ⟨#[]⟩) W:=by
 rcases h.get.2 with ⟨h0,hn⟩ | ⟨g,cap,cur,h0,hb,hg,hn,hm,hsz,htk⟩
 · rw [show v = _ from h0]
   exact run_convert_bytes_nil W 32 5 Tryd.underlying32 Tryd.underlying5 _ _
 · rw [show v = _ from h0]
   exact run_convert_bytes_arg W 32 5 Tryd.underlying32 Tryd.underlying5 g 0 0 cap [] rfl (fun i hi => absurd hi (Nat.not_lt_zero _))
theorem conv_l {w W:World} {v:Value} {l:List UInt8} (h:BR w W v l):∀ dst,Tryd.prog.underlying dst = some .string -> (convert 32 dst v).run Tryd.prog W = .ok (.string (bs l)) W:=by
 cases l with
 | nil => exact conv_br0 h
 | cons c l => exact conv_br h (Nat.succ_pos _)
theorem run_copy3 (w:World) (b:Nat) (T ty:TypeId) (y:ByteArray) (h:w.heap[b]? = some (.cells #[.int .u8 0,.int .u8 0,.int .u8 0] T (0,0))) :
   ∃ w',(Builtin.copy_ #[32,9] ty #[.slice (some ⟨b,0,none⟩) 3 3,.string y]).run Tryd.prog w = .ok (.int .i64 ((min y.size 3:Nat):Int)) w' /\ w'.heap[b]? = some (.cells #[.int .u8 ((y.data.toList.getD 0 0).toNat:Int),.int .u8 ((y.data.toList.getD 1 0).toNat:Int),.int .u8 ((y.data.toList.getD 2 0).toNat:Int)] T (0,0)) /\ ∀ w0:World,w0.heap.size <= b -> Since w0 w -> Since w0 w':=by
 obtain ⟨i,hi,hi1⟩:∃ i,Tryd.prog.info? 5 = some i /\ i.size = 1:=by
   obtain ⟨i,hi,hz⟩:=Option.map_eq_some_iff.1 info5
   simp only [Prod.mk.injEq] at hz
   exact ⟨i,hi,hz.2.1⟩
 have hu:=run_underlying (P:=Tryd.prog) Tryd.underlying32 w
 have hst:=run_storeCells_at Tryd.prog b 0 T ((y.data.toList.map fun x => Value.int .u8 (x.toNat:Int)).take (min y.size 3)) 0 _ w h (by rw [List.length_take]; show 0 + 0 + _ <= 3; omega) (by
   intro v hv
   obtain ⟨x,_,rfl⟩:=List.mem_map.1 (List.mem_of_mem_take hv)
   rfl)
 have hmin:Nat.min y.size 3 = min y.size 3:=rfl
 refine ⟨_,by simp [Builtin.copy_,hu,Builtin.lenOf,Builtin.firstCells,sizeOf,typeInfo,hi,hmin,goInt,hst,Result.andThen]; rfl, ?_,fun w0 hb hs => below_setRow hs hb _⟩
 rw [setRow_heap w b _ _ T _ h]
 congr 2
 have hz:y.size = y.data.toList.length:=rfl
 rw [hz]
 match y.data.toList with
 | [] => rfl
 | [a] => rfl
 | [a,c] => rfl
 | a :: c :: d :: r =>
   rw [Nat.min_eq_right (by show 3 <= r.length + 1 + 1 + 1; omega)]
   rfl
end Pm
end Go.Proofs.YtagmgldibjjeeaaDoor
