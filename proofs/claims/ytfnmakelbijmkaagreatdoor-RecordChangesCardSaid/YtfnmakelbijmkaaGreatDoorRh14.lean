import Derived.Test.YtfnmakelbijmkaaGreatDoorRh11
import Derived.Deep.Slices
import Derived.Deep.MidRow
set_option maxRecDepth 100000
namespace Go.Proofs.YtfnmakelbijmkaaGreatDoor
open Go.RowKit Go.Deep
theorem flat_get {α:Type} (k:Nat):∀ (L:List (List α)),(∀ l ∈ L,l.length = k) -> ∀ (q:Nat) (u:α),L.flatten[q]? = some u -> ∃ i j l,L[i]? = some l /\ l[j]? = some u /\ q = i * k + j:=by
 intro L
 induction L with
 | nil => intro _ q u h; simp at h
 | cons l L ih =>
   intro hk q u h
   rw [List.flatten_cons] at h
   have hl:=hk l List.mem_cons_self
   by_cases hq:q < l.length
   · rw [List.getElem?_append_left hq] at h
     exact ⟨0,q,l,rfl,h,by omega⟩
   · rw [List.getElem?_append_right (by omega)] at h
     obtain ⟨i,j,l',h1,h2,h3⟩:=ih (fun x hx => hk x (List.mem_cons_of_mem _ hx)) _ _ h
     refine ⟨i + 1,j,l',by rw [List.getElem?_cons_succ]; exact h1,h2, ?_⟩
     rw [Nat.succ_mul]
     omega
theorem flat_len {α:Type} (k:Nat):∀ (L:List (List α)),(∀ l ∈ L,l.length = k) -> L.flatten.length = L.length * k:=by
 intro L
 induction L with
 | nil => intro _; simp
 | cons l L ih =>
   intro hk
   rw [List.flatten_cons,List.length_append,ih (fun x hx => hk x (List.mem_cons_of_mem _ hx)),hk l List.mem_cons_self,List.length_cons,Nat.succ_mul]
   omega
theorem list_choice {α β:Type} (f:α -> β) (R:α -> Prop):∀ (L:List β),(∀ b ∈ L,∃ a,b = f a /\ R a) -> ∃ l:List α,L = l.map f /\ ∀ a ∈ l,R a:=by
 intro L
 induction L with
 | nil => intro _; exact ⟨[],rfl,by simp⟩
 | cons b L ih =>
   intro h
   obtain ⟨a,ha,hr⟩:=h b List.mem_cons_self
   obtain ⟨l,hl,hrl⟩:=ih (fun x hx => h x (List.mem_cons_of_mem _ hx))
   refine ⟨a :: l,by rw [ha,hl]; rfl,fun x hx => ?_⟩
   rcases List.mem_cons.1 hx with rfl | hx
   · exact hr
   · exact hrl x hx
theorem arg_elems {H:Type} {enc:TypeId × Value -> H} {w:World} {sp:Nat -> Bool} {held:Bool} {fuel:Nat} {t e:TypeId} {A:Option Addr} {n c k:Nat} {y:DataW H × List MemPlace} {α:Type} (f:α -> List Value) (R:α -> Prop)
   (ht:Tryz.prog.underlying t = some (.slice e)) (hk:Tryz.prog.cellsOf e = k) (hk0:0 < k) (_hfk:∀ a,(f a).length = k)
   (hQ:∀ m cs z,DataW.trod enc Tryz.prog w 0 sp held m e cs = some z -> cs.length = k -> (∀ x ∈ z.2,x.block < w.heap.size) -> ∃ a,cs = f a /\ R a)
   (hf:DataW.trod enc Tryz.prog w 0 sp held fuel t [.slice A n c] = some y) (hlt:∀ x ∈ y.2,x.block < w.heap.size) :
   ∃ l:List α,n = l.length /\ SlR w k (.slice A n c) n (l.flatMap f) /\ ∀ a ∈ l,R a:=by
 rcases open_slice ht hf with ⟨hcs,hx⟩ | ⟨a,len,cap,m,q,D,Pl,hcs,hb,hl,hm,hmm,hx,hel⟩
 · simp at hcs
   obtain ⟨rfl,rfl,rfl⟩:=hcs
   exact ⟨[],rfl,SlR.nil w k,by simp⟩
 · simp at hcs
   obtain ⟨rfl,rfl,rfl⟩:=hcs
   rw [hk] at hel hx
   have hle:n <= m:=by rw [hmm]; split <;> omega
   obtain ⟨C,hC⟩:=choose_lt (n:=n) (α:=List Value) (p:=fun i cs => w.cells? 0 (a.add (i * k)) k = some cs /\ DataW.trod enc Tryz.prog w 0 sp held q e cs = some (D i,Pl i)) (fun i hi => hel i (by omega))
   have hlen:∀ i,i < n -> (C i).length = k:=fun i hi => (World.cells?_some (hC i hi).1).2.1
   have hbl:0 < n -> a.block < w.heap.size:=fun hn => by
     refine hlt (.cell a.block a.off) ?_
     rw [hx]
     refine List.mem_append_left _ (MemPlace.mem_row.2 ⟨0,Nat.mul_pos (by omega) hk0,by simp⟩)
   have hcell:∀ i j,i < n -> j < k -> w.cell? ((a.add (i * k)).add j) = (C i)[j]? := fun i j hi hj => (World.cells?_some (hC i hi).1).2.2 j hj
   have hLk:∀ l ∈ (List.range n).map C,l.length = k:=by
     intro l hl
     obtain ⟨i,hi,rfl⟩:=List.mem_map.1 hl
     exact hlen i (List.mem_range.1 hi)
   obtain ⟨l,hl1,hl2⟩:=list_choice f R ((List.range n).map C) (fun b hb => by
     obtain ⟨i,hi,rfl⟩:=List.mem_map.1 hb
     have hi':=List.mem_range.1 hi
     refine hQ q (C i) _ (hC i hi').2 (hlen i hi') (fun x hx9 => hlt x ?_)
     rw [hx]
     exact List.mem_append_right _ (List.mem_flatMap.2 ⟨i,List.mem_range.2 (by omega),hx9⟩))
   have hn:n = l.length:=by
     have:=congrArg List.length hl1
     simpa using this
   have hfl:l.flatMap f = ((List.range n).map C).flatten:=by rw [hl1,List.flatMap_def]
   refine ⟨l,hn, ?_,hl2⟩
   rw [hfl]
   refine ⟨by rw [flat_len k _ hLk]; simp,some a,c,rfl,hl,hm, ?_⟩
   by_cases h0:n = 0
   · exact Or.inl h0
   right
   obtain ⟨b,off,spot⟩:=a
   have hspot:spot = none:=by
     have h9:=hcell 0 0 (by omega) hk0
     rw [List.getElem?_eq_getElem (by rw [hlen 0 (by omega)]; exact hk0)] at h9
     have:=World.cell?_spot h9
     simpa [Addr.add] using this
   subst hspot
   refine ⟨b,off,rfl,hbl (by omega),fun i u hu => ?_⟩
   obtain ⟨i',j,l',h1,h2,h3⟩:=flat_get k _ hLk i u hu
   obtain ⟨hi',h1⟩:=List.getElem?_eq_some_iff.1 h1
   simp at hi' h1
   subst h1
   obtain ⟨hj,_⟩:=List.getElem?_eq_some_iff.1 h2
   rw [hlen i' hi'] at hj
   have h9:=hcell i' j hi' hj
   rw [h2] at h9
   have hadd:((⟨b,off,none⟩:Addr).add (i' * k)).add j = ⟨b,off + i,none⟩:=by
     subst h3
     unfold Addr.add
     split <;> split <;> simp_all <;> omega
   rw [hadd] at h9
   exact h9
theorem flatMap_get {α:Type} (f:α -> List Value) (k:Nat) (hk:∀ a,(f a).length = k):∀ (l:List α) (i:Nat) (a:α),l[i]? = some a -> ∀ j,j < k -> (l.flatMap f)[i * k + j]? = (f a)[j]? := by
 intro l
 induction l with
 | nil => intro i a h; simp at h
 | cons x l ih =>
   intro i a h j hj
   rw [List.flatMap_cons]
   cases i with
   | zero =>
     simp at h
     subst h
     rw [Nat.zero_mul,Nat.zero_add,List.getElem?_append_left (by rw [hk]; exact hj)]
   | succ i =>
     rw [List.getElem?_cons_succ] at h
     rw [List.getElem?_append_right (by rw [hk,Nat.succ_mul]; omega),hk,Nat.succ_mul,show i * k + k + j - k = i * k + j by omega]
     exact ih i a h j hj
end Go.Proofs.YtfnmakelbijmkaaGreatDoor
