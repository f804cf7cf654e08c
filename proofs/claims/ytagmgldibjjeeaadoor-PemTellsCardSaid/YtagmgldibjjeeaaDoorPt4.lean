import Derived.Test.YtagmgldibjjeeaaDoorPt3
import Derived.Deep.OwnRows
set_option maxRecDepth 100000
namespace Go.Proofs.YtagmgldibjjeeaaDoor
open Go.RowKit
theorem some_bytes (R:ByteArray) (h:0 < R.size):(!R.toList.isEmpty) = true:=by
 have h2:R.toList = R.data.toList:=by first | exact ByteArray.toList_eq R | exact Go.ByteArray.toList_eq R
 rw [h2]
 cases hl:R.data.toList with
 | nil =>
   have h9:R.size = R.data.toList.length:=rfl
   rw [hl,List.length_nil] at h9
   omega
 | cons x l => rfl
structure ElemIs (T E:TypeId) (z:Value) (size bytes:Nat):Prop where
 ht:Tryd.prog.underlying T = some (.slice E)
 hi:(Tryd.prog.info? E).map (fun i => (i.zero,i.size,i.bytes)) = some (some z,size,bytes)
 hz:z.cells.size = size
 hs:0 < size
theorem app_own {T E:TypeId} {z:Value} {size bytes:Nat} (I:ElemIs T E z size bytes) {ops:Array Oper} {rest:List Oper} {o:Oper} {a:Act} {Q:Exit -> Act -> World -> Prop} (hgd:o.guard = none) (s x:Operand)
   (ho:o.op = .call { callee:=.builtin .append,args:=#[s,x],argTypes:=#[T,T] })
   (w0 wr:World) (v:Value) (n:Nat) (xs:List Value) (hs:a.eval s = v) (hown:wr.ownsRow w0.heap.size E size v n xs) (hS:Since w0 wr)
   (cells:Array Value) (c m:Nat) (hx:a.eval x = .slice (some ⟨wr.heap.size,0,none⟩) m c) (hl:cells.toList.length = m * size) (h1:∀ u ∈ cells.toList,u.oneCell' = true)
   (h63:n + m <= maxLen) (hbytes:(n + m) * bytes <= 140737488355328)
   (h:∀ v' w',w'.ownsRow w0.heap.size E size v' (n + m) (xs ++ cells.toList) -> Since w0 w' -> wpList Tryd.prog ops Q rest (a.put o.dst v') w') :
   wpList Tryd.prog ops Q (o :: rest) a (wr.alloc (.cells cells E)):=by
 obtain ⟨ht,hi,hz,hs0⟩:=I
 obtain ⟨i,hi1,hi2⟩:=Option.map_eq_some_iff.1 hi
 simp only [Prod.mk.injEq] at hi2
 refine wpList_append_own _ hgd s x T ho w0.heap.size E i z size bytes ht hi1 hi2.1 hi2.2.1 hi2.2.2 hz hs0 v n xs hs (hown.alloc _) ⟨wr.heap.size,0,none⟩ m c cells.toList hx hl ?_ h1 h63 hbytes ?_ ?_
 · intro j u hu
   have hj:j < cells.size:=by
     rcases List.getElem?_eq_some_iff.1 hu with ⟨hj,_⟩
     simpa using hj
   have hadd:(⟨wr.heap.size,0,none⟩:Addr).add j = ⟨wr.heap.size,j,none⟩:=by unfold Addr.add; split <;> simp_all
   rw [hadd,(World.rowIs_alloc wr cells E (fun k => cells.getD k (.bool false)) (fun k hk => by simp [Array.getD,hk])).cell hj]
   rw [Array.getElem?_toList] at hu
   simp [Array.getD,hj] at hu ⊢
   exact hu
 · have h9:=Below.size hS
   simp
   omega
 · intro v' w' ho' hg _
   refine h v' w' ho' ?_
   refine Below.grown (Below.alloc hS (Below.size hS) _) hg ?_ ?_
   · have h9:=Below.size hS
     simp
     omega
   · intro k hk
     exact (hown.lt k hk).1
theorem app_one {T E:TypeId} {z:Value} {bytes:Nat} (I:ElemIs T E z 1 bytes) {ops:Array Oper} {rest:List Oper} {o:Oper} {a:Act} {Q:Exit -> Act -> World -> Prop} (hgd:o.guard = none) (s x:Operand)
   (ho:o.op = .call { callee:=.builtin .append,args:=#[s,x],argTypes:=#[T,T] })
   (w0 wr:World) (v:Value) (n:Nat) (xs:List Value) (hs:a.eval s = v) (hown:wr.ownsRow w0.heap.size E 1 v n xs) (hS:Since w0 wr)
   (y:Value) (hx:a.eval x = .slice (some ⟨wr.heap.size,0,none⟩) 1 1) (h1:y.oneCell' = true) (hn:n <= 1099511627776) (hby:bytes <= 64)
   (h:∀ v' w',w'.ownsRow w0.heap.size E 1 v' (n + 1) (xs ++ [y]) -> Since w0 w' -> wpList Tryd.prog ops Q rest (a.put o.dst v') w') :
   wpList Tryd.prog ops Q (o :: rest) a (wr.alloc (.cells #[y] E)) :=
 app_own I hgd s x ho w0 wr v n xs hs hown hS #[y] 1 1 hx rfl (fun u hu => by simp at hu; subst hu; exact h1) (by unfold maxLen; omega)
   (Nat.le_trans (Nat.mul_le_mul (show n + 1 <= 1099511627777 by omega) hby) (by decide)) h
theorem elem8:ElemIs 32 5 (.int .u8 0) 1 1:=⟨Tryd.underlying32,by kernel_rfl,rfl,by decide⟩
theorem conv_at (w:World) (g n cap:Nat) (cur:Array Value) (xs:List Int) (hg:w.heap[g]? = some (.cells cur 5)) (hn:xs.length = n) (ht:cur.toList.take n = xs.map (Value.int .u8)) :
   ∀ dst,Tryd.prog.underlying dst = some .string -> (convert 32 dst (.slice (some ⟨g,0,none⟩) n cap)).run Tryd.prog w = .ok (.string (strOfNums xs)) w :=
 run_convert_bytes_arg (P:=Tryd.prog) w 32 5 Tryd.underlying32 Tryd.underlying5 g 0 n cap xs hn fun i hi => by
   have h1:(cur.toList.take n)[i]? = some (.int .u8 (xs.getD i 0)):=by
     rw [ht,List.getElem?_map,List.getElem?_eq_getElem (by omega)]
     simp [List.getD,List.getElem?_eq_getElem (show i < xs.length by omega)]
   rw [List.getElem?_take_of_lt hi,Array.getElem?_toList] at h1
   simp [World.cell?,hg,h1]
theorem conv_own (w:World) (b:Nat) (v:Value) (n:Nat) (xs:List Int) (h:w.ownsRow b 5 1 v n (xs.map (Value.int .u8))) (h0:0 < n) :
   ∀ dst,Tryd.prog.underlying dst = some .string -> (convert 32 dst v).run Tryd.prog w = .ok (.string (strOfNums xs)) w:=by
 obtain ⟨h1,h2⟩:=h
 rcases h2 with ⟨rfl,hn⟩ | ⟨g,cap,cur,rfl,hb,hg,hn,hm,hsz,htk⟩
 · omega
 · rw [List.length_map] at h1
   rw [Nat.mul_one] at htk h1
   exact conv_at _ _ _ _ _ xs hg h1 htk
structure KeptBut (w w':World) (v:Value):Prop where
 size:w.heap.size <= w'.heap.size
 block:∀ b,b < w.heap.size -> some b ≠ v.ownBlock -> w'.heap[b]? = w.heap[b]?
theorem elemS:ElemIs 40 9 (.string ⟨#[]⟩) 1 16:=⟨Tryd.underlying40,by kernel_rfl,rfl,by decide⟩
def Strs (w:World) (base:Nat) (v:Value) (ss:List ByteArray):Prop:=w.ownsRow base 9 1 v ss.length (ss.map Value.string)
def MakS (f:Nat) (args:Array Value) (ss:List ByteArray):Prop:=∀ w,Calls Tryd.prog f args w fun e w' => ∃ v,e = .returned v /\ Strs w' w.heap.size v ss /\ Below w.heap.size w w'
end Go.Proofs.YtagmgldibjjeeaaDoor
