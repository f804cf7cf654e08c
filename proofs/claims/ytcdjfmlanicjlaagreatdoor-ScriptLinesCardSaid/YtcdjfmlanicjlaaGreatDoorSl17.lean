import Derived.Test.YtcdjfmlanicjlaaGreatDoorSl16
import Derived.Deep.AppendLies
set_option maxRecDepth 100000
namespace Go.Proofs.YtcdjfmlanicjlaaGreatDoor
open Go.RowKit
namespace RwL
open Rw
theorem at_store {P:Program} {ops:Array Oper} {Q:Exit -> Act -> World -> Prop} {o:Oper} {rest:List Oper} {a:Act} {w:World} {ty:TypeId} {x y:Operand} (_:o.op = .store ty x y) (h:wpList P ops Q (o :: rest) a w):wpList P ops Q (o :: rest) a w:=h
def lone (t:TypeId) (g:Nat) (C:List Value):Row:=⟨t,C.length,.slice (some ⟨g,0,none⟩) 1 1,1,C⟩
theorem rows_push {w:World} {base:Nat} {rs:List Row} (h:Rw.Rows w base rs) (hb:base <= w.heap.size) (C:List Value) (t:TypeId):Rw.Rows (w.alloc (.cells C.toArray t)) base (lone t w.heap.size C :: rs):=by
 obtain ⟨ho,ha⟩:=h
 refine ⟨fun r hr => ?_,List.pairwise_cons.2 ⟨fun r hr g hg => ?_,ha⟩⟩
 · rcases List.mem_cons.1 hr with rfl | hr
   · refine ⟨by simp [lone],.inr ⟨w.heap.size,1,C.toArray,rfl,hb,heap_alloc_new w _,Nat.le_refl _,by decide,by simp [lone], ?_⟩⟩
     simp [lone]
   · exact World.ownsRow.alloc (ho r hr) _
 · intro h2
   have h3:g = w.heap.size:=by cases hg; rfl
   have h4:=(World.ownsRow.lt (ho r hr) g h2).2
   omega
theorem lone_heap {w:World} {base:Nat} {t:TypeId} {g:Nat} {C:List Value} (h:(lone t g C).own w base):w.heap[g]? = some (.cells C.toArray t (0,0)):=by
 rcases h.2 with ⟨h0,_⟩ | ⟨g',cap,cur,hv,hb,hg,hc,hm,hs,ht⟩
 · cases h0
 · cases hv
   rw [hg]
   congr 2
   apply Array.ext'
   have h1:cur.toList.length = 1 * C.length:=by simpa [lone] using hs
   have h2:cur.toList.take (1 * C.length) = C:=ht
   rw [<- h1,List.take_length] at h2
   exact h2
theorem lone_cell {w:World} {base:Nat} {t:TypeId} {g:Nat} {C:List Value} (h:(lone t g C).own w base) (i:Nat) (v:Value) (hv:C[i]? = some v):w.cell? ⟨g,i,none⟩ = some v /\ w.frozen? ⟨g,i,none⟩ = false:=by
 have h1:=lone_heap h
 refine ⟨?_,frozen_of_row _ _ i _ _ h1⟩
 unfold World.cell?
 rw [h1]
 simpa using hv
theorem store_rows {ops:Array Oper} {rest:List Oper} {o:Oper} {a:Act} {Q:Exit -> Act -> World -> Prop} (hgd:o.guard = none) (ty:TypeId) (x y:Operand) (ho:o.op = .store ty x y) (hi:(Tryz.prog.info? ty).map (·.size) = some 1)
   (w0 W:World) (A B:List Row) (e:TypeId) (k g n c:Nat) (xs:List Value) (hR:Rw.Rows W w0.heap.size (A ++ ⟨e,k,.slice (some ⟨g,0,none⟩) n c,n,xs⟩ :: B)) (hS:Since w0 W) (p:Nat) (hp:p < n * k)
   (hx:a.eval x = .pointer (some ⟨g,p,none⟩)) (v:Value) (hy:a.eval y = v) (h1:v.oneCell' = true)
   (h:∀ W',Rw.Rows W' w0.heap.size (A ++ ⟨e,k,.slice (some ⟨g,0,none⟩) n c,n,xs.set p v⟩ :: B) -> Since w0 W' -> KeptBut W W' (.slice (some ⟨g,0,none⟩) n c) -> wpList Tryz.prog ops Q rest (a.put o.dst undef) W') :
   wpList Tryz.prog ops Q (o :: rest) a W:=by
 subst hy
 have hown:=hR.get
 obtain ⟨cur,hb,hg,hsz⟩:∃ cur:Array Value,w0.heap.size <= g /\ W.heap[g]? = some (.cells cur e (0,0)) /\ n * k <= cur.size:=by
   rcases hown.2 with ⟨h0,_⟩ | ⟨g',cap,cur,hv,hb,hg,hc,hm,hs,ht⟩
   · cases h0
   · cases hv
     have h8:n * k <= c * k:=Nat.mul_le_mul_right k hc
     have h7:cur.size = c * k:=by simpa using hs
     exact ⟨cur,hb,hg,by rw [h7]; exact h8⟩
 have hrun:(storeVar ty ⟨g,p,none⟩ (a.eval y)).run Tryz.prog W = .ok () (W.setCell ⟨g,p,none⟩ (a.eval y)):=by
   have h9:=run_storeCells_at Tryz.prog g p e [a.eval y] 0 cur W hg (by simp; omega) (fun x hx => by simp at hx; subst hx; exact h1)
   have hc:(a.eval y).cells = #[a.eval y]:=by
     generalize a.eval y = z at h1
     cases z <;> first | rfl | cases h1
   cases hq:Tryz.prog.info? ty with
   | none => simp [hq] at hi
   | some i =>
     have hs:i.size = 1:=by simpa [hq] using hi
     rw [Go.setCell_eq_setRow W g p cur e _ _ hg]
     have e1:(cur.toList.take p ++ [a.eval y] ++ cur.toList.drop (p + 1)).toArray = cur.setIfInBounds p (a.eval y):=by
       apply Array.ext'
       rw [Array.toList_setIfInBounds,List.set_eq_take_append_cons_drop]
       have:p < cur.toList.length:=by simp; omega
       rw [if_pos this]
       simp
     simp only [Nat.add_zero,List.length_cons,List.length_nil,Nat.zero_add] at h9
     rw [e1] at h9
     simp [storeVar,sizeOf,typeInfo,hq,hc,hs,h9]
 refine wpList_plain hgd fun _ hK => ?_
 unfold Oper.wp execOp
 simp only [ho,hx,Instr.storeAt,Instr.sureAddr,Sem.run_bind,Sem.run_pure,Result.andThen_ok,hrun]
 refine hK _ _ (h _ (hR.set p hp _) (Below.setCell (p:=⟨g,p,none⟩) hS hb _) ⟨by simp,fun b _ hne => heap_setCell_other W ⟨g,p,none⟩ b _ (fun e => hne (by subst e; rfl))⟩)
theorem own_any {w:World} {base:Nat} {e:TypeId} {k n:Nat} {v:Value} {xs:List Value} (h:w.ownsRow base e k v n xs):∃ A c,v = .slice A n c:=by
 rcases h.2 with ⟨h0,h1⟩ | ⟨g',cap,cur,hv,_⟩
 · subst h1; exact ⟨_,_,h0⟩
 · exact ⟨_,_,hv⟩
theorem own_iter {w:World} {base gi:Nat} {s:ByteArray} {p:Nat} (hi:w.heap[gi]? = some (.stringIter s p)) (q:Nat) {r:Row} (h:r.own w base):r.own (w.iterAt gi s q) base:=by
 obtain ⟨h1,h2⟩:=h
 refine ⟨h1, ?_⟩
 rcases h2 with h2 | ⟨g,cap,cur,hv,hb,hg,rest⟩
 · exact .inl h2
 · refine .inr ⟨g,cap,cur,hv,hb, ?_,rest⟩
   have hne:g ≠ gi:=fun e => by rw [e,hi] at hg; cases hg
   rw [Lib.iterAt_other w gi g s q hne]; exact hg
theorem rows_iter {w:World} {base gi:Nat} {s:ByteArray} {p:Nat} {rs:List Row} (hi:w.heap[gi]? = some (.stringIter s p)) (q:Nat) (h:Rw.Rows w base rs):Rw.Rows (w.iterAt gi s q) base rs:=⟨fun r hr => own_iter hi q (h.own r hr),h.apart⟩
theorem iter_ne {w:World} {base gi:Nat} {s:ByteArray} {p:Nat} (hi:w.heap[gi]? = some (.stringIter s p)) {e:TypeId} {k n:Nat} {v:Value} {xs:List Value} (h:w.ownsRow base e k v n xs):some gi ≠ v.ownBlock:=by
 intro h9
 rcases h.2 with ⟨hv,_⟩ | ⟨g,cap,cur,hv,hb,hg,_⟩
 · rw [hv] at h9; cases h9
 · rw [hv] at h9
   have:gi = g:=by injection h9
   rw [<- this,hi] at hg; cases hg
theorem iter_kept {w w':World} {gi:Nat} {s:ByteArray} {p:Nat} {v:Value} (hi:w.heap[gi]? = some (.stringIter s p)) (hk:KeptBut w w' v) (hn:some gi ≠ v.ownBlock):w'.heap[gi]? = some (.stringIter s p) :=
 (hk.block gi (Array.getElem?_eq_some_iff.1 hi).1 hn).trans hi
end RwL
end Go.Proofs.YtcdjfmlanicjlaaGreatDoor
