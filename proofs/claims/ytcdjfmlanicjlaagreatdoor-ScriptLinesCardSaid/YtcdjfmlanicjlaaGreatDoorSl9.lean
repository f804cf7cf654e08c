import Derived.Test.YtcdjfmlanicjlaaGreatDoorSl3
import Derived.Deep.RegionHeld
import Derived.StillTail
set_option maxRecDepth 100000
namespace Go.Proofs.YtcdjfmlanicjlaaGreatDoor
namespace RegW
section
variable {P:Program} {ops:Array Oper} {Q:Exit -> Act -> World -> Prop} {md:Region.Mode} {S:World -> Prop} {L:Nat}
def anyW (P:Program) (md:Region.Mode) (ops:Array Oper) (Q:Exit -> Act -> World -> Prop) (S:World -> Prop) (L:Nat):Nat -> Array Bool -> Act -> World -> Prop
 | 0,listed,a,w => Region.ready md ops listed = [] /\ Q .normal a w
 | fuel + 1,listed,a,w =>
   (Region.ready md ops listed = [] -> Q .normal a w) /\ ∀ i ∈ Region.ready md ops listed,wpOp P ops Q i (fun a' w' => (i ≠ L -> S w') /\ anyW P md ops Q S L fuel (listed.setIfInBounds i true) a' w') a w
theorem any_of:∀ (fuel:Nat) (listed:Array Bool) (a:Act) (w:World),anyW P md ops Q S L fuel listed a w -> wpAny P md ops Q fuel listed a w
 | 0,_,_,_,h => h
 | fuel + 1,_,_,_,h => ⟨h.1,fun i hi => wpOp_mono (fun a' w' h' => any_of fuel _ a' w' h'.2) (h.2 i hi)⟩
theorem first {i:Nat} {oi:Oper} {v:Value} (hi:ops[i]? = some oi) (hsel:∀ (j:Nat) (o:Oper) cs b,ops[j]? = some o -> o.op ≠ .select cs b) (hQ:∀ c a w,Q (.panic c) (a.put oi.dst v) w -> Q (.panic c) a w) (hL:Region.waitsFor md ops L i = true) :
   ∀ (fuel:Nat) (listed:Array Bool) (a:Act) (w:World),
     (∀ j oj,ops[j]? = some oj -> j ≠ i -> listed.getD j true = false -> (∀ e ∈ oj.after,Region.binds md e = true -> e.on ≠ i) -> oi.apart ops oj = true) ->
     i ∈ Region.ready md ops listed -> YieldsIf P ops S oi v a -> S w -> anyW P md ops Q S L fuel (listed.setIfInBounds i true) (a.put oi.dst v) w -> anyW P md ops Q S L (fuel + 1) listed a w:=by
 intro fuel
 induction fuel with
 | zero =>
   intro listed a w _ hr hy hS H
   refine ⟨fun h => (by rw [h] at hr; cases hr),fun j hj => ?_⟩
   by_cases hji:j = i
   · subst hji; exact hy.wpOp hi hS ⟨fun _ => hS,H⟩
   · have:=ready_mono hj hji
     rw [H.1] at this
     cases this
 | succ fuel ih =>
   intro listed a w hfree hr hy hS H
   refine ⟨fun h => (by rw [h] at hr; cases hr),fun j hj => ?_⟩
   by_cases hji:j = i
   · subst hji; exact hy.wpOp hi hS ⟨fun _ => hS,H⟩
   · have h1:=H.2 j (ready_mono hj hji)
     obtain ⟨hjun,oj,hoj,hall⟩:=mem_ready.1 hj
     have hnot:∀ e ∈ oj.after,Region.binds md e = true -> e.on ≠ i:=fun e he hb heq => by
       have g1:=hall e he hb
       have g0:=getD_both (mem_ready.1 hr).1
       rw [heq] at g1
       rw [g1] at g0
       cases g0
     have hjL:j ≠ L:=by
       intro e
       subst e
       obtain ⟨o2,ho2,e2,he2,hb2,hon⟩:=Region.waitsFor_spec hL
       have:o2 = oj:=Option.some.inj (ho2.symm.trans hoj)
       subst this
       exact hnot e2 he2 hb2 hon
     have h2:=wpOp_putIf hoj (hfree j oj hoj hji hjun hnot) (fun cs b => hsel i oi cs b hi) (fun cs b => hsel j oj cs b hoj) hQ hy h1
     have hfree':∀ k ok,ops[k]? = some ok -> k ≠ i -> (listed.setIfInBounds j true).getD k true = false -> (∀ e ∈ ok.after,Region.binds md e = true -> e.on ≠ i) -> oi.apart ops ok = true:=fun k ok hk hki hun hno => by
       refine hfree k ok hk hki ?_ hno
       by_cases hjk:j = k
       · subst hjk; exact hjun
       · rw [getD_set_ne true hjk] at hun; exact hun
     refine wpOp_mono (fun a' w' h3 => ⟨h3.2.1,ih (listed.setIfInBounds j true) a' w' hfree' (ready_mono hr (Ne.symm hji)) h3.1 (h3.2.1 hjL) ?_⟩) h2
     rw [Array.setIfInBounds_comm _ _ hji]
     exact h3.2.2
theorem take {i:Nat} {oi:Oper} {v:Value} {fuel:Nat} {listed:Array Bool} {a:Act} {w:World} (hi:ops[i]? = some oi) (hs:Region.noSelect ops = true) (hf:Region.free md ops listed i = true) (hr:(Region.ready md ops listed).contains i = true) (hL:Region.waitsFor md ops L i = true)
   (hQ:∀ c a w,Q (.panic c) (a.put oi.dst v) w -> Q (.panic c) a w) (hy:YieldsIf P ops S oi v a) (hS:S w) (h:anyW P md ops Q S L fuel (listed.setIfInBounds i true) (a.put oi.dst v) w):anyW P md ops Q S L (fuel + 1) listed a w :=
 first hi (Region.noSelect_spec hs) hQ hL fuel listed a w (Region.free_spec hi hf) (by simpa using hr) hy hS h
theorem only {i:Nat} {o:Oper} {fuel:Nat} {listed:Array Bool} {a:Act} {w:World} (ho:ops[i]? = some o) (hr:Region.ready md ops listed = [i])
   (h:∀ K':Act -> World -> Prop,Shut (∀ a w,S w -> (S w -> anyW P md ops Q S L fuel (listed.setIfInBounds i true) a w) -> K' a w) -> if Region.wanted o (yielded ops a.tmps) = true then Oper.wp P o a w K' Q else K' (a.put o.dst undef) w):anyW P md ops Q S L (fuel + 1) listed a w:=by
 refine ⟨fun h0 => (by rw [hr] at h0; cases h0),fun j hj => ?_⟩
 rw [hr] at hj
 obtain rfl:j = i:=by simpa using hj
 exact wpOp_step ho (fun K' hK => h K' (fun a w hS hW => hK a w ⟨fun _ => hS,hW hS⟩))
theorem last {o:Oper} {listed:Array Bool} {a:Act} {w:World} (ho:ops[L]? = some o) (hr:Region.ready md ops listed = [L]) (hr2:Region.ready md ops (listed.setIfInBounds L true) = []) (h:wpList P ops Q [o] a w):anyW P md ops Q S L 1 listed a w:=by
 refine ⟨fun h0 => (by rw [hr] at h0; cases h0),fun j hj => ?_⟩
 rw [hr] at hj
 obtain rfl:j = L:=by simpa using hj
 have hw:wpOp P ops Q j (wpList P ops Q []) a w:=by unfold wpOp; simp only [ho]; exact h
 exact wpOp_mono (fun a' w' h' => ⟨fun h0 => absurd rfl h0,hr2,h'⟩) hw
theorem start {id:Nat} {a:Act} {w:World} (S:World -> Prop) (L:Nat) (hm:P.follows .mixedOrders = true) (hS:S w.drew) (h:S w.drew -> anyW P .any ops Q S L ops.size (Array.replicate ops.size false) a w.drew):(Code.region id ops true).wp P Q a w :=
 wp_region_any hm (any_of _ _ _ _ (h hS))
end
end RegW
end Go.Proofs.YtcdjfmlanicjlaaGreatDoor
namespace Go.Proofs.YtcdjfmlanicjlaaGreatDoor
namespace RegW
section
variable {P:Program} {ops:Array Oper} {Q:Exit -> Act -> World -> Prop} {md:Region.Mode} {S:World -> Prop} {L:Nat}
theorem tk (i:Nat) {oi:Oper} {v:Value} {fuel:Nat} {listed:Array Bool} {a:Act} {w:World} (hi:ops[i]? = some oi) (h:anyW P md ops Q S L fuel (listed.setIfInBounds i true) (a.put oi.dst v) w) (hy:∀ w,S w -> (execOp a.eval oi).run P w = .ok (.value v) w:=by intro w hSw; go_split_ands; go_simp; try with_reducible rfl) (hs:Region.noSelect ops = true:=by kernel_rfl) (hf:Region.free md ops listed i = true:=by kernel_rfl) (hr:(Region.ready md ops listed).contains i = true:=by kernel_rfl) (hL:Region.waitsFor md ops L i = true:=by kernel_rfl) (hw:Region.wanted oi (yielded ops a.tmps) = true:=by kernel_rfl) (hQ:∀ c (a:Act) w,Q (.panic c) (a.put oi.dst v) w -> Q (.panic c) a w:=by exact fun _ _ _ h => h) (hS:S w:=by assumption):anyW P md ops Q S L (fuel + 1) listed a w :=
 take hi hs hf hr hL hQ (Or.inl ⟨hw,hy⟩) hS h
end
end RegW
end Go.Proofs.YtcdjfmlanicjlaaGreatDoor
namespace Go.Proofs.YtcdjfmlanicjlaaGreatDoor
namespace RegW
section
variable {P:Program} {ops:Array Oper} {Q:Exit -> Act -> World -> Prop} {md:Region.Mode} {S:World -> Prop} {L:Nat}
theorem either {i j:Nat} {fuel:Nat} {listed:Array Bool} {a:Act} {w:World} (hr:Region.ready md ops listed = [i,j])
   (h1:wpOp P ops Q i (fun a' w' => (i ≠ L -> S w') /\ anyW P md ops Q S L fuel (listed.setIfInBounds i true) a' w') a w)
   (h2:wpOp P ops Q j (fun a' w' => (j ≠ L -> S w') /\ anyW P md ops Q S L fuel (listed.setIfInBounds j true) a' w') a w):anyW P md ops Q S L (fuel + 1) listed a w:=by
 refine ⟨fun h0 => (by rw [h0] at hr; cases hr),fun k hk => ?_⟩
 rw [hr] at hk
 simp only [List.mem_cons,List.not_mem_nil,or_false] at hk
 rcases hk with rfl | rfl
 · exact h1
 · exact h2
theorem one {i:Nat} {o:Oper} {fuel:Nat} {listed:Array Bool} {a:Act} {w:World} (ho:ops[i]? = some o)
   (h:∀ K':Act -> World -> Prop,Shut (∀ a w,S w -> (S w -> anyW P md ops Q S L fuel (listed.setIfInBounds i true) a w) -> K' a w) -> if Region.wanted o (yielded ops a.tmps) = true then Oper.wp P o a w K' Q else K' (a.put o.dst undef) w) :
   wpOp P ops Q i (fun a' w' => (i ≠ L -> S w') /\ anyW P md ops Q S L fuel (listed.setIfInBounds i true) a' w') a w :=
 wpOp_step ho (fun K' hK => h K' (fun a w hS hW => hK a w ⟨fun _ => hS,hW hS⟩))
end
end RegW
end Go.Proofs.YtcdjfmlanicjlaaGreatDoor
