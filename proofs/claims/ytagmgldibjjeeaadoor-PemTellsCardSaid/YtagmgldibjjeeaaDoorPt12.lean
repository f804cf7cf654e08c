import Derived.Test.YtagmgldibjjeeaaDoorPt11
import Derived.Deep.AppendLies
set_option maxRecDepth 100000
namespace Go.Proofs.YtagmgldibjjeeaaDoor
open Go.RowKit
namespace RwL
open Rw
def lone (t:TypeId) (g:Nat) (C:List Value):Row:=⟨t,C.length,.slice (some ⟨g,0,none⟩) 1 1,1,C⟩
theorem lone_heap {w:World} {base:Nat} {t:TypeId} {g:Nat} {C:List Value} (h:(lone t g C).own w base):w.heap[g]? = some (.cells C.toArray t (0,0)):=by
 rcases h.2 with ⟨h0,_⟩ | ⟨g',cap,cur,hv,hb,hg,hc,hm,hs,ht⟩
 · cases h0
 · cases hv
   rw [hg]
   congr 2
   apply Array.ext'
   have h1:cur.toList.length = 1 * C.length:=by simpa [lone] using hs
   have h2:cur.toList.take (1 * C.length) = C:=ht
   rw [<- h1,List.take_length] at h2
   exact h2
theorem lone_cell {w:World} {base:Nat} {t:TypeId} {g:Nat} {C:List Value} (h:(lone t g C).own w base) (i:Nat) (v:Value) (hv:C[i]? = some v):w.cell? ⟨g,i,none⟩ = some v /\ w.frozen? ⟨g,i,none⟩ = false:=by
 have h1:=lone_heap h
 refine ⟨?_,frozen_of_row _ _ i _ _ h1⟩
 unfold World.cell?
 rw [h1]
 simpa using hv
theorem own_any {w:World} {base:Nat} {e:TypeId} {k n:Nat} {v:Value} {xs:List Value} (h:w.ownsRow base e k v n xs):∃ A c,v = .slice A n c:=by
 rcases h.2 with ⟨h0,h1⟩ | ⟨g',cap,cur,hv,_⟩
 · subst h1; exact ⟨_,_,h0⟩
 · exact ⟨_,_,hv⟩
end RwL
end Go.Proofs.YtagmgldibjjeeaaDoor
