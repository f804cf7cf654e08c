import Derived.Test.YtcdjfmlanicjlaaGreatDoorSl33
import Derived.Laws.CopyOwn
set_option maxRecDepth 100000
namespace Go.Proofs.YtcdjfmlanicjlaaGreatDoor
open Go.RowKit
structure HB (w:World) (K:World -> Prop) (g:Nat) (C:Array Value) (W:World):Prop where
 since:Since w W
 tabs:K W
 cell:∀ i v,C[i]? = some v -> W.cell? ⟨g,i,none⟩ = some v
 lg:g < W.heap.size
theorem HB.step {w:World} {K:World -> Prop} [Kp K] {g:Nat} {C:Array Value} {W W':World} (h:HB w K g C W) (hb:Below W.heap.size W W'):HB w K g C W' :=
 ⟨h.since.step hb,Kp.keep h.tabs hb,fun i v hv => (hb.cell (p:=⟨g,i,none⟩) h.lg).trans (h.cell i v hv),Nat.lt_of_lt_of_le h.lg hb.size⟩
theorem hbstep {w:World} {K:World -> Prop} [Kp K] {g:Nat} {C:Array Value} {W W':World} (hb:Below W.heap.size W W') (h:Hid (HB w K g C W)):Hid (HB w K g C W'):=lH (h.out.step hb)
theorem hb_new (w:World) (K:World -> Prop) [Kp K] (hK:K w) (C:Array Value) (t:TypeId):HB w K w.heap.size C (w.alloc (.cells C t)) :=
 ⟨(Since.refl w).alloc _,Kp.keep hK ((Below.refl _ w).alloc (Nat.le_refl _) _),fun i v hv => (World.cell?_alloc_new _ _ _ _).trans hv,by simp⟩
instance:Kp (fun _ => True):=⟨fun _ _ => trivial⟩
theorem hb7 {w:World} {K:World -> Prop} {g:Nat} {a b c d e f k:Value} {W:World} (h:Hid (HB w K g #[a,b,c,d,e,f,k] W)):Hid (HB w K g #[a,b,c,d,e,f,k] W) /\ W.cell? ⟨g,0,none⟩ = some a /\ W.cell? ⟨g,1,none⟩ = some b /\ W.cell? ⟨g,2,none⟩ = some c /\ W.cell? ⟨g,3,none⟩ = some d /\ W.cell? ⟨g,4,none⟩ = some e /\ W.cell? ⟨g,5,none⟩ = some f /\ W.cell? ⟨g,6,none⟩ = some k :=
 ⟨h,h.out.cell 0 _ rfl,h.out.cell 1 _ rfl,h.out.cell 2 _ rfl,h.out.cell 3 _ rfl,h.out.cell 4 _ rfl,h.out.cell 5 _ rfl,h.out.cell 6 _ rfl⟩
theorem results_cell_tmp2 {P:Program} {fn:Func} {p u:Tmp} {ty:TypeId} (h:fn.results = #[.cell p ty,.tmp u]) (tmps:Array Value) (w:World) (g:Nat) (t:TypeId) (cs:Array Value) (fr:Nat × Nat) (d:TypeDesc) (v:Value)
   (hp:tmps.getD p undef = .pointer (some ⟨g,0,none⟩)) (hv:tmps.getD u undef = v) (hg:w.heap[g]? = some (.cells cs t fr))
   (hu:P.underlying ty = some d) (hd:(match d with | .struct _ | .array _ _ => true | _ => false) = true) (hi:(P.info? ty).map (·.size) = some cs.size) :
   (results fn tmps).run P w = .ok (.tuple #[.agg cs,v]) w:=by
 subst hv
 have hp':tmps[p]?.getD undef = .pointer (some ⟨g,0,none⟩):=by simpa using hp
 simp [results,h,hp',asAddr,run_loadVar_row w g t ty cs fr d hg hu hd hi]
structure HR (w:World) (g:Nat) (C:Array Value) (t:TypeId) (W:World):Prop where
 row:W.heap[g]? = some (.cells C t (0,0))
theorem HR.step {w:World} {g:Nat} {C:Array Value} {t:TypeId} {W W':World} (h:HR w g C t W) (hb:Below W.heap.size W W'):HR w g C t W':=⟨(hb.block g (Array.getElem?_eq_some_iff.1 h.row).1).trans h.row⟩
theorem hr_old {w W:World} {g:Nat} {C:Array Value} {t:TypeId} (h:HR w g C t W) (o:Obj):HR w g C t (W.alloc o):=⟨(heap_alloc_old _ _ (Array.getElem?_eq_some_iff.1 h.row).1).trans h.row⟩
end Go.Proofs.YtcdjfmlanicjlaaGreatDoor
