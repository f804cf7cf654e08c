import Derived.Test.YtagmgldibjjeeaaDoorPt9
import Derived.BigQuiet
set_option maxRecDepth 100000
namespace Go.Proofs.YtagmgldibjjeeaaDoor
open Go.RowKit Go.Deep
namespace Att
abbrev A2:=Int × ByteArray
theorem row_since {w w':World} {base:Nat} {E:TypeId} {size:Nat} {v:Value} {n:Nat} {xs:List Value} (h:w.ownsRow base E size v n xs) (hs:Since w w'):w'.ownsRow base E size v n xs:=by
 obtain ⟨h1,h2⟩:=h
 refine ⟨h1, ?_⟩
 rcases h2 with h2 | ⟨g,cap,cur,rfl,hb,hg,r⟩
 · exact Or.inl h2
 · exact Or.inr ⟨g,cap,cur,rfl,hb,(Below.block hs g (Array.getElem?_eq_some_iff.1 hg).1).trans hg,r⟩
def prevA (l:List A2):Nat -> Int
 | 0 => 0
 | k+1 => match l[k]? with | some p => p.1 | none => 0
def stepA (l:List A2) (k:Nat) (p:A2):Bool:=decide (prevA l k < p.1) && decide (p.1 <= 65535) && decide (p.2.size <= 255)
def attN (l:List A2):Nat -> Bool
 | 0 => true
 | k+1 => attN l k && (match l[k]? with | some p => stepA l k p | none => true)
end Att
end Go.Proofs.YtagmgldibjjeeaaDoor
namespace Go.Proofs.YtagmgldibjjeeaaDoor
open Go.RowKit
namespace Rw
def Apart (a b:Value):Prop:=∀ g,a.ownBlock = some g -> b.ownBlock ≠ some g
theorem Apart.symm {a b:Value} (h:Apart a b):Apart b a:=fun g h1 h2 => h g h2 h1
structure Row where
 e:TypeId
 k:Nat
 v:Value
 n:Nat
 xs:List Value
def Row.own (w:World) (base:Nat) (r:Row):Prop:=w.ownsRow base r.e r.k r.v r.n r.xs
structure Rows (w:World) (base:Nat) (rs:List Row):Prop where
 own:∀ r ∈ rs,r.own w base
 apart:rs.Pairwise (fun a b => Apart a.v b.v)
theorem Rows.since {w w':World} {base:Nat} {rs:List Row} (h:Rows w base rs) (hs:Since w w'):Rows w' base rs:=⟨fun r hr => Att.row_since (h.own r hr) hs,h.apart⟩
theorem Rows.get {w:World} {base:Nat} {A B:List Row} {r:Row} (h:Rows w base (A ++ r :: B)):w.ownsRow base r.e r.k r.v r.n r.xs:=h.own r (by simp)
theorem Rows.turn {w w':World} {base:Nat} {A B:List Row} {r:Row} (h:Rows w base (A ++ r :: B)) (r':Row) (h1:r'.own w' base)
   (hk:∀ s:Row,s.own w base -> Apart r.v s.v -> s.own w' base /\ Apart r'.v s.v):Rows w' base (A ++ r' :: B):=by
 obtain ⟨ho,ha⟩:=h
 rw [List.pairwise_append,List.pairwise_cons] at ha
 obtain ⟨a1,⟨a2,a3⟩,a4⟩:=ha
 refine ⟨fun s hs => ?_, ?_⟩
 · rcases List.mem_append.1 hs with hs | hs
   · exact (hk s (ho s (by simp [hs])) (a4 s hs r (by simp)).symm).1
   · rcases List.mem_cons.1 hs with rfl | hs
     · exact h1
     · exact (hk s (ho s (by simp [hs])) (a2 s hs)).1
 · rw [List.pairwise_append,List.pairwise_cons]
   refine ⟨a1,⟨fun s hs => (hk s (ho s (by simp [hs])) (a2 s hs)).2,a3⟩,fun s hs t ht => ?_⟩
   rcases List.mem_cons.1 ht with rfl | ht
   · exact (hk s (ho s (by simp [hs])) (a4 s hs r (by simp)).symm).2.symm
   · exact a4 s hs t (by simp [ht])
theorem app_rows {T E:TypeId} {z:Value} {size bytes:Nat} (I:ElemIs T E z size bytes) {ops:Array Oper} {rest:List Oper} {o:Oper} {a:Act} {Q:Exit -> Act -> World -> Prop} (hgd:o.guard = none) (s x:Operand)
   (ho:o.op = .call { callee:=.builtin .append,args:=#[s,x],argTypes:=#[T,T] })
   (w0 wr:World) (H:Nat) (hH:wr.heap.size = H) (A B:List Row) (v:Value) (n:Nat) (xs:List Value) (hs:a.eval s = v) (hown:Rows wr w0.heap.size (A ++ ⟨E,size,v,n,xs⟩ :: B)) (hS:Since w0 wr)
   (cells:Array Value) (c m:Nat) (hx:a.eval x = .slice (some ⟨H,0,none⟩) m c) (hl:cells.toList.length = m * size) (h1:∀ u ∈ cells.toList,u.oneCell' = true)
   (h63:n + m <= maxLen) (hbytes:(n + m) * bytes <= 140737488355328)
   (h:∀ v' w',Rows w' w0.heap.size (A ++ ⟨E,size,v',n + m,xs ++ cells.toList⟩ :: B) -> Since w0 w' -> KeptBut wr w' v -> wpList Tryd.prog ops Q rest (a.put o.dst v') w') :
   wpList Tryd.prog ops Q (o :: rest) a (wr.alloc (.cells cells E)):=by
 subst hH
 obtain ⟨ht,hi,hz,hs0⟩:=I
 obtain ⟨i,hi1,hi2⟩:=Option.map_eq_some_iff.1 hi
 simp only [Prod.mk.injEq] at hi2
 have hown1:=hown.get
 have h9:=Below.size hS
 refine wpList_append_own_at (w:=wr.alloc (.cells cells E)) hgd s x T ho w0.heap.size E i z size bytes ht hi1 hi2.1 hi2.2.1 hi2.2.2 hz hs0 v n xs hs (hown1.alloc _) ⟨wr.heap.size,0,none⟩ m c cells.toList hx hl ?_ h1 h63 hbytes (by simp; omega) ?_
 · intro j u hu
   have hj:j < cells.size:=by
     rcases List.getElem?_eq_some_iff.1 hu with ⟨hj,_⟩
     simpa using hj
   have hadd:(⟨wr.heap.size,0,none⟩:Addr).add j = ⟨wr.heap.size,j,none⟩:=by unfold Addr.add; split <;> simp_all
   rw [hadd,(World.rowIs_alloc wr cells E (fun k => cells.getD k (.bool false)) (fun k hk => by simp [Array.getD,hk])).cell hj]
   rw [Array.getElem?_toList] at hu
   simp [Array.getD,hj] at hu ⊢
   exact hu
 · intro v' w' ho' hg _ hw
   refine h v' w' (hown.turn ⟨E,size,v',n + m,xs ++ cells.toList⟩ ho' fun u hu hap => ⟨?_, ?_⟩) ?_ ⟨by have:=hg.size; simp at this; omega,fun b hb hr => ?_⟩
   · refine (World.ownsRow.alloc hu _).kept hg ?_
     cases hub:u.v.ownBlock with
     | none => exact Or.inl rfl
     | some g => exact Or.inr fun e => hap g e.symm hub
   · intro g h2 h3
     rcases hw with hw | hw
     · exact hap g (hw ▸ h2) h3
     · rw [show (⟨E,size,v',n + m,xs ++ cells.toList⟩:Row).v = v' from rfl,hw] at h2
       cases h2
       have h4:=(World.ownsRow.lt hu _ h3).2
       have e4:(wr.alloc (.cells cells E)).heap.size = wr.heap.size + 1:=by simp
       omega
   · exact Below.grown (Below.alloc hS (Below.size hS) _) hg (by simp; omega) (fun k hk => (hown1.lt k hk).1)
   · rw [hg.block b (by simp; omega) hr]
     exact heap_alloc_old _ _ hb
theorem own_set {w:World} {base:Nat} {e:TypeId} {k:Nat} {g n c:Nat} {xs:List Value} (h:w.ownsRow base e k (.slice (some ⟨g,0,none⟩) n c) n xs) (p:Nat) (hp:p < n * k) (x:Value) :
   (w.setCell ⟨g,p,none⟩ x).ownsRow base e k (.slice (some ⟨g,0,none⟩) n c) n (xs.set p x):=by
 refine ⟨by rw [List.length_set]; exact h.1, ?_⟩
 rcases h.2 with ⟨h0,_⟩ | ⟨g',cap,cur,hv,hb,hg,hc,hm,hs,ht⟩
 · cases h0
 · cases hv
   refine .inr ⟨g,c,cur.setIfInBounds p x,rfl,hb, ?_,hc,hm,by simpa using hs, ?_⟩
   · rw [Go.setCell_eq_setRow w g p cur e _ x hg]
     exact setRow_heap w g cur _ e _ hg
   · rw [<- ht]
     apply List.ext_getElem?
     intro i
     simp only [Array.toList_setIfInBounds,List.getElem?_take,List.getElem?_set,List.length_take]
     have hsz:cur.toList.length = c * k:=by simpa using hs
     by_cases hi:i < n * k
     · rw [if_pos hi]
       by_cases hpi:p = i
       · subst hpi
         have h8:n * k <= c * k:=Nat.mul_le_mul_right _ hc
         have h7:p < cur.toList.length:=by omega
         have h6:p < cur.size:=h7
         simp [h6]; omega
       · simp [hpi,hi]
     · have hpi:¬ p = i:=by omega
       simp [hi,hpi]
theorem Rows.set {w:World} {base:Nat} {A B:List Row} {e:TypeId} {k g n c:Nat} {xs:List Value} (h:Rows w base (A ++ ⟨e,k,.slice (some ⟨g,0,none⟩) n c,n,xs⟩ :: B)) (p:Nat) (hp:p < n * k) (x:Value) :
   Rows (w.setCell ⟨g,p,none⟩ x) base (A ++ ⟨e,k,.slice (some ⟨g,0,none⟩) n c,n,xs.set p x⟩ :: B):=by
 have h0:=h.get
 refine h.turn _ (own_set h0 p hp x) fun s hs hap => ⟨?_,hap⟩
 refine ⟨hs.1, ?_⟩
 obtain ⟨cur0,hg0⟩:∃ cur0,w.heap[g]? = some (.cells cur0 e (0,0)):=by
   rcases h0.2 with ⟨h1,_⟩ | ⟨g',cap,cur,hv,hb,hg,_⟩
   · cases h1
   · cases hv; exact ⟨_,hg⟩
 rcases hs.2 with hn | ⟨g',cap,cur,hv,hb,hg,rest⟩
 · exact .inl hn
 · refine .inr ⟨g',cap,cur,hv,hb, ?_,rest⟩
   have hne:g' ≠ g:=fun e => hap g rfl (by rw [hv,e]; rfl)
   rw [Go.setCell_eq_setRow w g p cur0 e _ x hg0,setRow_other w g g' _ hne]; exact hg
end Rw
end Go.Proofs.YtagmgldibjjeeaaDoor
