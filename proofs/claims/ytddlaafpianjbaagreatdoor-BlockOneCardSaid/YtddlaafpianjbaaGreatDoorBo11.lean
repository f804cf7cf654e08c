import Derived.Test.YtddlaafpianjbaaGreatDoorBo9
import Derived.Deep.Slices
import Derived.Deep.MidRow
set_option maxRecDepth 100000
namespace Go.Proofs.YtddlaafpianjbaaGreatDoor
open Go.RowKit Go.Deep
theorem flatMap_get {α:Type} (f:α -> List Value) (k:Nat) (hk:∀ a,(f a).length = k):∀ (l:List α) (i:Nat) (a:α),l[i]? = some a -> ∀ j,j < k -> (l.flatMap f)[i * k + j]? = (f a)[j]? := by
 intro l
 induction l with
 | nil => intro i a h; simp at h
 | cons x l ih =>
   intro i a h j hj
   rw [List.flatMap_cons]
   cases i with
   | zero =>
     simp at h
     subst h
     rw [Nat.zero_mul,Nat.zero_add,List.getElem?_append_left (by rw [hk]; exact hj)]
   | succ i =>
     rw [List.getElem?_cons_succ] at h
     rw [List.getElem?_append_right (by rw [hk,Nat.succ_mul]; omega),hk,Nat.succ_mul,show i * k + k + j - k = i * k + j by omega]
     exact ih i a h j hj
end Go.Proofs.YtddlaafpianjbaaGreatDoor
namespace Go.Proofs.YtddlaafpianjbaaGreatDoor
open Go.RowKit
namespace Opt
abbrev P2:=ByteArray × ByteArray
def oc (p:P2):List Value:=[.string p.1,.string p.2]
theorem oc_len (p:P2):(oc p).length = 2:=rfl
def OptsS (w:World) (v:Value) (l:List P2):Prop:=SlR w 2 v l.length (l.flatMap oc)
theorem OptsS.since {w w':World} {v:Value} {l:List P2} (h:OptsS w v l) (hs:Since w w'):OptsS w' v l:=SlR.since h hs
theorem OptsS.nil (w:World):OptsS w (.slice none 0 0) []:=SlR.nil w 2
theorem OptsS.own {w:World} {base:Nat} {e:TypeId} {v:Value} {l:List P2} (h:w.ownsRow base e 2 v l.length (l.flatMap oc)):OptsS w v l:=SlR.own h
theorem OptsS.empty {w:World} {v:Value} {l:List P2} (h:OptsS w v l) (hn:l.length = 0):∃ A c,v = .slice A 0 c /\ c <= maxLen:=SlR.empty h hn
theorem OptsS.slice {w:World} {v:Value} {l:List P2} (h:OptsS w v l):∃ A c,v = .slice A l.length c /\ l.length <= c /\ c <= maxLen:=SlR.slice h
theorem OptsS.form {w:World} {v:Value} {l:List P2} (h:OptsS w v l) (hn:0 < l.length) :
   ∃ b o c,v = .slice (some ⟨b,o,none⟩) l.length c /\ l.length <= c /\ c <= maxLen /\ b < w.heap.size /\ ∀ i p,l[i]? = some p -> w.cell? ⟨b,o + i * 2,none⟩ = some (.string p.1) /\ w.cell? ⟨b,o + i * 2 + 1,none⟩ = some (.string p.2):=by
 obtain ⟨b,o,c,hv,h1,h2,h3,h4⟩:=SlR.form h hn
 refine ⟨b,o,c,hv,h1,h2,h3,fun i p hp => ?_⟩
 have e0:=flatMap_get oc 2 oc_len l i p hp 0 (by decide)
 have e1:=flatMap_get oc 2 oc_len l i p hp 1 (by decide)
 exact ⟨h4 (i * 2) _ e0,by rw [Nat.add_assoc]; exact h4 (i * 2 + 1) _ e1⟩
theorem OptsS.take {w:World} {A:Option Addr} {n c:Nat} {l:List P2} (h:OptsS w (.slice A n c) l) (k:Nat) (hk:k <= l.length):OptsS w (.slice A k c) (l.take k):=by
 obtain ⟨hl,A',c',hv,h1,h2,h3⟩:=h
 obtain ⟨rfl,rfl,rfl⟩:=Value.slice.inj hv
 have htl:(l.take k).length = k:=by rw [List.length_take]; omega
 unfold OptsS
 rw [htl]
 refine ⟨?_,A,c,rfl,by omega,h2, ?_⟩
 · rw [List.length_flatMap]
   have:((l.take k).map fun a => (oc a).length) = List.replicate k 2:=by
     rw [List.eq_replicate_iff]
     exact ⟨by rw [List.length_map,htl],fun x hx => by obtain ⟨y,_,rfl⟩:=List.mem_map.1 hx; rfl⟩
   rw [this]; simp
 · rcases h3 with h3 | ⟨b,o,e,hlt,hc⟩
   · exact Or.inl (by omega)
   · refine Or.inr ⟨b,o,e,hlt,fun i u hu => hc i u ?_⟩
     have hsplit:l.flatMap oc = (l.take k).flatMap oc ++ (l.drop k).flatMap oc:=by rw [<- List.flatMap_append,List.take_append_drop]
     rw [hsplit,List.getElem?_append_left (List.getElem?_eq_some_iff.1 hu).1]
     exact hu
def RdO (f:Nat) (l:List P2) (args:Value -> Array Value) (v:Value):Prop:=∀ w x,OptsS w x l -> Calls Tryz.prog f (args x) w fun e w' => e = .returned v /\ Below w.heap.size w w'
theorem RdO.calls0 {f:Nat} {l:List P2} {args:Value -> Array Value} {v x:Value} (h:RdO f l args v) {w:World} (hx:OptsS w x l) {R:Ending -> World -> Prop} (k:∀ w',Since w w' -> R (.returned v) w'):Calls Tryz.prog f (args x) w R :=
 (h w x hx).mono fun _ _ ⟨he,hb⟩ => by subst he; exact k _ hb
end Opt
end Go.Proofs.YtddlaafpianjbaaGreatDoor
