import Derived.RangeFuncNested
import Derived.RangeFuncBound
import Derived.Test.YtagmgldibjjeeaaDoorRows
set_option maxRecDepth 100000
namespace Go.Proofs.YtagmgldibjjeeaaDoor
open Go.RowKit
inductive Stp (Bn:Nat) (X:World):World -> Prop where
 | more (Y:World) (h:X.grownBy Y none):Stp Bn X Y
 | own (v:Value):Stp Bn X (X.setCell ⟨Bn,0,none⟩ v)
structure Abide {β:Type} (B Bn:Nat) (I:β -> World -> Prop):Prop where
 turn:OwnFrom B I
 set:∀ s X v,I s X -> I s (X.setCell ⟨Bn,0,none⟩ v)
theorem Abide.stp {β:Type} {B Bn:Nat} {I:β -> World -> Prop} (h:Abide B Bn I) {s:β} {X Y:World} (hs:I s X) (hst:Stp Bn X Y):I s Y:=by
 cases hst with
 | more _ hg => exact h.turn s X Y none hs hg (fun r e => by cases e)
 | own v => exact h.set s X v hs
theorem heap_stp {Bn k:Nat} {o:Obj} {X Y:World} (h:X.heap[k]? = some o) (hk:Bn ≠ k) (hst:Stp Bn X Y):Y.heap[k]? = some o:=by
 cases hst with
 | more _ hg => exact (hg.block k (Array.getElem?_eq_some_iff.1 h).1 (by simp)).trans h
 | own v => exact (Below.heap_setCell _ _ _ k (fun e => hk e.symm)).trans h
set_option maxHeartbeats 1000000 in
theorem range_box {α:Type} {g:Operand} {ps:Array Tmp} {assign body:Code} {Q:Exit -> Act -> World -> Prop} {a:Act} {w:World} {n Bn gf:Nat} {lb:Array Value}
   (hg:a.eval g = .func (.func gf) #[] lb) (eg:∀ args w,(callFunc gf args).run Tryd.prog w = .ok (.enter gf args) w) (hBn:Bn < w.heap.size)
   {encs:α -> Array Value} (hps:∀ x,(encs x).size = ps.size) {Kp:World -> World -> Prop} {S Sp:List α -> Prop} {N:Nat}
   (hKt:∀ {A B C:World},Kp A B -> Kp B C -> Kp A C) (hKb:∀ (W:World) (l:Nat) (o:Obj),w.heap.size <= l -> Kp W (W.putObj l o))
   (hseq:∀ (l:Nat) (J Jx:List α -> World -> Prop) (W:World),Below w.heap.size w W -> (∀ s X Y,J s X -> Stp Bn X Y -> J s Y) ->
     (∀ pre x W1,J pre W1 -> pre.length < N -> YieldAt Fence.wide (n - 1 - 1) Tryd.prog l (encs x) W1 fun e W' => (e = .returned (.bool true) /\ J (pre ++ [x]) W' /\ Kp W1 W') ∨ (e = .returned (.bool false) /\ Jx (pre ++ [x]) W')) ->
     J [] W -> CallsIn Fence.wide (n - 1) Tryd.prog gf (#[.func (.yield l) #[] #[]] ++ lb) W fun e W' => (∃ v,e = .returned v) /\ ((∃ xs,S xs /\ J xs W') ∨ (∃ pre,Sp pre /\ Jx pre W')))
   (I:List α -> World -> Prop) (Ix:Code -> List α -> World -> Prop) (hI:Abide w.heap.size Bn I) (hIx:∀ c,OwnFrom w.heap.size (Ix c)) (h0:I [] w) (a₁:α -> Act)
   (hassign:∀ (l:Nat) (x:α) (W:World) (K:Act -> World -> Prop),K (a₁ x) W ->
     assign.wpIn (Fence.wide.inRound l) (n - 1 - 1) Tryd.prog (Exit.then K (fun _ _ _ => False)) { tmps:=(ps.zip (encs x)).foldl (fun t (p,v) => t.setIfInBounds p v) a.tmps,defers:=[] } W)
   (hbody:∀ (l:Nat) (pre:List α) (x:α) (W:World),I pre W -> pre.length < N -> body.wpIn (Fence.wide.inRound l) (n - 1 - 1) Tryd.prog (ownPostG w.heap.size Kp I Ix (pre ++ [x]) W) (a₁ x) W)
   (hdone:∀ (D:Nat) (xs:List α) (W:World),w.heap.size <= D -> S xs -> I xs W -> W.heap[D]? = some (.deferred (some [])) -> Q .normal { a with defers:={ target:=.collected D,args:=#[] } :: a.defers } W)
   (hstop:∀ (D:Nat) (c:Code) (pre:List α) (W:World),w.heap.size <= D -> Sp pre -> Ix c pre W -> W.heap[D]? = some (.deferred (some [])) -> c.wpIn Fence.wide n Tryd.prog Q { a with defers:={ target:=.collected D,args:=#[] } :: a.defers } W) :
   (Code.rangeFunc g ps assign body).wpIn Fence.wide n Tryd.prog Q a w:=by
 refine wpIn_rangeFunc fun fn hfn => ?_
 obtain ⟨D,hD⟩:∃ D,D = w.heap.size:=⟨_,rfl⟩
 obtain ⟨rc,hrc⟩:∃ rc:LoopState -> Option Code -> Loop,∀ s p,rc s p = { state:=s,pending:=p,fn,tmps:=a.tmps,params:=ps,assign,body,defers:=D }:=⟨_,fun _ _ => rfl⟩
 obtain ⟨V,hV⟩:∃ V,V = (w.alloc (.deferred (some []))).alloc (.loop (rc .ready none)):=⟨_,rfl⟩
 have hb:Below w.heap.size w V:=by rw [hV]; exact ((Below.refl _ w).alloc (Nat.le_refl _) _).alloc (by simp) _
 have hVl:V.heap[D + 1]? = some (.loop (rc .ready none)):=by
   have h9:=World.alloc_heap_new (w.alloc (.deferred (some []))) (.loop (rc .ready none))
   rw [World.size_alloc,<- hD,<- hV] at h9; exact h9
 have hVd:V.heap[D]? = some (.deferred (some [])):=by
   have h9:=(Below.heap_alloc (w.alloc (.deferred (some []))) (.loop (rc .ready none)) w.heap.size (by simp)).trans (World.alloc_heap_new w _)
   rw [<- hD,<- hV] at h9; exact h9
 have hVI:I [] V:=by rw [hV]; exact hI.turn.alloc _ (hI.turn.alloc _ h0)
 refine ⟨D + 1,[{ target:=.collected D,args:=#[] }],V,{ target:=.fn (.func gf) lb,args:=#[.func (.yield (D + 1)) #[] #[]] },V,gf,#[.func (.yield (D + 1)) #[] #[]] ++ lb,V, ?_, ?_,fun _ _ => trivial, ?_,(fun h => by cases h), ?_⟩
 · rw [hV,hrc,hD]; exact run_enterLoop_outer _ _ _ _ _
 · simp only [resolve,hg]
   simp [go_sem]
 · simp [invoke,go_sem,eg]
 refine (hseq (D + 1) (fun pre W => I pre W /\ W.heap[D + 1]? = some (.loop (rc .ready none)) /\ W.heap[D]? = some (.deferred (some [])))
   (fun pre W => ∃ c,Ix c pre W /\ W.heap[D + 1]? = some (.loop (rc .done (some c))) /\ W.heap[D]? = some (.deferred (some []))) V hb
   (fun s X Y hs hst => ⟨hI.stp hs.1 hst,heap_stp hs.2.1 (by omega) hst,heap_stp hs.2.2 (by omega) hst⟩) ?_ ⟨hVI,hVl,hVd⟩).mono ?_
 · rintro pre x W ⟨hi,hl,hd⟩ hlen
   have hy:=run_yield (P:=Tryd.prog) (args:=encs x) hl (by rw [hrc]; exact hps x)
   rw [hrc] at hy
   refine ⟨fn,_,assign,body,hy,roundIn_of_wpIn hfn (hassign _ x W _ ⟨_,run_beginRound hl (by rw [hrc]), ?_⟩)⟩
   clear hy
   obtain ⟨W2,hW2⟩:∃ W2,W2 = W.putObj (D + 1) (.loop { rc .ready none with state:=.busy }):=⟨_,rfl⟩
   rw [<- hW2]
   have hl2:W2.heap[D + 1]? = some (.loop { rc .ready none with state:=.busy }):=by rw [hW2]; exact World.putObj_heap_same (Array.getElem?_eq_some_iff.1 hl).1
   have hd2:W2.heap[D]? = some (.deferred (some [])):=by rw [hW2]; exact (World.putObj_heap_other (by omega)).trans hd
   have hi2:I pre W2:=by rw [hW2]; exact hI.turn.putObj _ hi (by omega) hl rfl
   have hk2:Kp W W2:=by rw [hW2]; exact hKb _ _ _ (by omega)
   have hend:∀ (jump:Option Code) (W3:World),KeepsFrom w.heap.size W2 W3 -> ∃ W4,(Instr.endRound (D + 1) jump).run Tryd.prog W3 = .ok (.bool jump.isNone) W4 /\ W4 = W3.putObj (D + 1) (.loop (rc (if jump.isNone then .ready else .done) jump)) /\
       W3.heap[D + 1]? = some (.loop { rc .ready none with state:=.busy }) /\ W4.heap[D + 1]? = some (.loop (rc (if jump.isNone then .ready else .done) jump)) /\ W4.heap[D]? = some (.deferred (some [])):=fun jump W3 hk3 => by
     have hl3:=hk3.same _ _ (by omega) hl2 rfl
     have hr:=run_endRound (P:=Tryd.prog) jump hl3
     refine ⟨_,hr, ?_,hl3, ?_, ?_⟩
     · rw [hrc,hrc]
     · rw [World.putObj_heap_same (Array.getElem?_eq_some_iff.1 hl3).1,hrc,hrc]
     · exact (World.putObj_heap_other (by omega)).trans (hk3.same _ _ (by omega) hd2 rfl)
   have hjump:∀ (c:Code) (W3:World),KeepsFrom w.heap.size W2 W3 -> Ix c (pre ++ [x]) W3 -> ∃ W4,(Instr.endRound (D + 1) (some c)).run Tryd.prog W3 = .ok (.bool false) W4 /\
       ∃ c,Ix c (pre ++ [x]) W4 /\ W4.heap[D + 1]? = some (.loop (rc .done (some c))) /\ W4.heap[D]? = some (.deferred (some [])):=fun c W3 hk3 hx3 => by
     obtain ⟨W4,hr,e4,hl3,hl4,hd4⟩:=hend (some c) W3 hk3
     exact ⟨W4,hr,c,by rw [e4]; exact (hIx c).putObj _ hx3 (by omega) hl3 rfl,hl4,hd4⟩
   refine wpIn_mono (hbody _ pre x W2 hi2 hlen) ?_
   rintro e a3 W3 hp
   match e,hp with
   | .normal,⟨hk3,hkp,hi3⟩ =>
     obtain ⟨W4,hr,e4,hl3,hl4,hd4⟩:=hend none W3 hk3
     exact ⟨_,_,hr,.inl ⟨rfl,⟨by rw [e4]; exact hI.turn.putObj _ hi3 (by omega) hl3 rfl,hl4,hd4⟩,hKt hk2 (hKt hkp (by rw [e4]; exact hKb _ _ _ (by omega)))⟩⟩
   | .ret,⟨hk3,hx3⟩ =>
     obtain ⟨W4,hr,h4⟩:=hjump .ret W3 hk3 hx3
     exact ⟨_,_,hr,.inr ⟨rfl,h4⟩⟩
   | .exit id,⟨hk3,hx3⟩ =>
     obtain ⟨W4,hr,h4⟩:=hjump (.exit id) W3 hk3 hx3
     exact ⟨_,_,hr,.inr ⟨rfl,h4⟩⟩
   | .goto t,⟨hk3,hx3⟩ =>
     obtain ⟨W4,hr,h4⟩:=hjump (.goto t) W3 hk3 hx3
     exact ⟨_,_,hr,.inr ⟨rfl,h4⟩⟩
 · rintro e W2 ⟨⟨v,rfl⟩,h2⟩
   rcases h2 with ⟨xs,hS,hi,hl,hd⟩ | ⟨pre,hSp,c,hx,hl,hd⟩
   · have hr:=run_endLoop (P:=Tryd.prog) hl (by rw [hrc]; simp)
     rw [show (rc .ready none).pending = none from by rw [hrc]] at hr
     exact ⟨none,_,hr,hdone D xs _ (by omega) hS (hI.turn.putObj _ hi (by omega) hl rfl) ((World.putObj_heap_other (by omega)).trans hd)⟩
   · have hr:=run_endLoop (P:=Tryd.prog) hl (by rw [hrc]; simp)
     rw [show (rc .done (some c)).pending = some c from by rw [hrc]] at hr
     exact ⟨some c,_,hr,hstop D c pre _ (by omega) hSp ((hIx c).putObj _ hx (by omega) hl rfl) ((World.putObj_heap_other (by omega)).trans hd)⟩
end Go.Proofs.YtagmgldibjjeeaaDoor
