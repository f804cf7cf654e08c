import Derived.Test.YtcdjfmlanicjlaaGreatDoorSl4
import Derived.OpenShut
set_option maxRecDepth 100000
namespace Go.Proofs.YtcdjfmlanicjlaaGreatDoor
open Go.RowKit
def SlR (w:World) (k:Nat) (v:Value) (n:Nat) (cs:List Value):Prop :=
 cs.length = n * k /\ ∃ A c,v = .slice A n c /\ n <= c /\ c <= maxLen /\ (n = 0 ∨ ∃ b o,A = some ⟨b,o,none⟩ /\ b < w.heap.size /\ ∀ i u,cs[i]? = some u -> w.cell? ⟨b,o + i,none⟩ = some u)
theorem SlR.below {w w':World} {k n:Nat} {v:Value} {cs:List Value} (h:SlR w k v n cs) (hb:Below w.heap.size w w'):SlR w' k v n cs:=by
 obtain ⟨hl,A,c,rfl,h1,h2,h3⟩:=h
 refine ⟨hl,A,c,rfl,h1,h2, ?_⟩
 rcases h3 with h3 | ⟨b,o,rfl,hlt,hc⟩
 · exact Or.inl h3
 · exact Or.inr ⟨b,o,rfl,Nat.lt_of_lt_of_le hlt hb.size,fun i u hu => (hb.cell (p:=⟨b,o + i,none⟩) hlt).trans (hc i u hu)⟩
theorem SlR.since {w w':World} {k n:Nat} {v:Value} {cs:List Value} (h:SlR w k v n cs) (hs:Since w w'):SlR w' k v n cs:=SlR.below h hs
theorem SlR.own {w:World} {base:Nat} {e:TypeId} {k n:Nat} {v:Value} {cs:List Value} (h:w.ownsRow base e k v n cs):SlR w k v n cs:=by
 obtain ⟨h1,h2⟩:=h
 rcases h2 with ⟨rfl,hn⟩ | ⟨g,cap,cur,rfl,hb,hg,hn,hm,hsz,htk⟩
 · subst hn
   exact ⟨h1,none,0,rfl,Nat.le_refl _,Nat.zero_le _,Or.inl rfl⟩
 · refine ⟨h1,_,_,rfl,hn,hm,Or.inr ⟨g,0,rfl,(Array.getElem?_eq_some_iff.1 hg).1,fun i u hu => ?_⟩⟩
   unfold World.cell?
   rw [hg]
   rw [<- htk,List.getElem?_take] at hu
   split at hu
   · rw [Nat.zero_add]
     simpa using hu
   · cases hu
theorem SlR.nil (w:World) (k:Nat):SlR w k (.slice none 0 0) 0 []:=⟨by simp,none,0,rfl,Nat.le_refl _,Nat.zero_le _,Or.inl rfl⟩
theorem SlR.empty {w:World} {k n:Nat} {v:Value} {cs:List Value} (h:SlR w k v n cs) (hn:n = 0):∃ A c,v = .slice A 0 c /\ c <= maxLen:=by
 subst hn
 obtain ⟨_,A,c,hv,_,hc,_⟩:=h
 exact ⟨A,c,hv,hc⟩
theorem SlR.form {w:World} {k n:Nat} {v:Value} {cs:List Value} (h:SlR w k v n cs) (hn:0 < n) :
   ∃ b o c,v = .slice (some ⟨b,o,none⟩) n c /\ n <= c /\ c <= maxLen /\ b < w.heap.size /\ ∀ i u,cs[i]? = some u -> w.cell? ⟨b,o + i,none⟩ = some u:=by
 obtain ⟨_,A,c,rfl,h1,h2,h3⟩:=h
 rcases h3 with h3 | ⟨b,o,rfl,hlt,hc⟩
 · omega
 · exact ⟨b,o,c,rfl,h1,h2,hlt,hc⟩
theorem SlR.slice {w:World} {k n:Nat} {v:Value} {cs:List Value} (h:SlR w k v n cs):∃ A c,v = .slice A n c /\ n <= c /\ c <= maxLen:=by
 obtain ⟨_,A,c,rfl,h1,h2,_⟩:=h
 exact ⟨A,c,rfl,h1,h2⟩
theorem SlR.le {w:World} {k n:Nat} {v:Value} {cs:List Value} (h:SlR w k v n cs):n <= 9223372036854775807:=by
 obtain ⟨_,A,c,rfl,h1,h2,_⟩:=h
 unfold maxLen at h2
 omega
def IntsS (w:World) (v:Value) (xs:List Int):Prop:=SlR w 1 v xs.length (xs.map (Value.int .i64))
def StrsS (w:World) (v:Value) (ss:List ByteArray):Prop:=SlR w 1 v ss.length (ss.map Value.string)
theorem StrsS.since {w w':World} {v:Value} {xs:List ByteArray} (h:StrsS w v xs) (hs:Since w w'):StrsS w' v xs:=SlR.below h hs
theorem StrsS.slice {w:World} {v:Value} {xs:List ByteArray} (h:StrsS w v xs):∃ A c,v = .slice A xs.length c /\ xs.length <= c /\ c <= maxLen:=SlR.slice h
namespace Oid
end Oid
namespace Plain
end Plain
end Go.Proofs.YtcdjfmlanicjlaaGreatDoor
