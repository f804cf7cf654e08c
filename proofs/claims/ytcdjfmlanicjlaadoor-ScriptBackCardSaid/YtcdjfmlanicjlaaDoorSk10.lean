import Derived.Test.YtcdjfmlanicjlaaDoorSk4
import Derived.OpenShut
set_option maxRecDepth 100000
namespace Go.Proofs.YtcdjfmlanicjlaaDoor
open Go.RowKit
def SlR (w:World) (k:Nat) (v:Value) (n:Nat) (cs:List Value):Prop :=
 cs.length = n * k /\ ∃ A c,v = .slice A n c /\ n <= c /\ c <= maxLen /\ (n = 0 ∨ ∃ b o,A = some ⟨b,o,none⟩ /\ b < w.heap.size /\ ∀ i u,cs[i]? = some u -> w.cell? ⟨b,o + i,none⟩ = some u)
theorem SlR.below {w w':World} {k n:Nat} {v:Value} {cs:List Value} (h:SlR w k v n cs) (hb:Below w.heap.size w w'):SlR w' k v n cs:=by
 obtain ⟨hl,A,c,rfl,h1,h2,h3⟩:=h
 refine ⟨hl,A,c,rfl,h1,h2, ?_⟩
 rcases h3 with h3 | ⟨b,o,rfl,hlt,hc⟩
 · exact Or.inl h3
 · exact Or.inr ⟨b,o,rfl,Nat.lt_of_lt_of_le hlt hb.size,fun i u hu => (hb.cell (p:=⟨b,o + i,none⟩) hlt).trans (hc i u hu)⟩
theorem SlR.since {w w':World} {k n:Nat} {v:Value} {cs:List Value} (h:SlR w k v n cs) (hs:Since w w'):SlR w' k v n cs:=SlR.below h hs
theorem SlR.own {w:World} {base:Nat} {e:TypeId} {k n:Nat} {v:Value} {cs:List Value} (h:w.ownsRow base e k v n cs):SlR w k v n cs:=by
 obtain ⟨h1,h2⟩:=h
 rcases h2 with ⟨rfl,hn⟩ | ⟨g,cap,cur,rfl,hb,hg,hn,hm,hsz,htk⟩
 · subst hn
   exact ⟨h1,none,0,rfl,Nat.le_refl _,Nat.zero_le _,Or.inl rfl⟩
 · refine ⟨h1,_,_,rfl,hn,hm,Or.inr ⟨g,0,rfl,(Array.getElem?_eq_some_iff.1 hg).1,fun i u hu => ?_⟩⟩
   unfold World.cell?
   rw [hg]
   rw [<- htk,List.getElem?_take] at hu
   split at hu
   · rw [Nat.zero_add]
     simpa using hu
   · cases hu
theorem SlR.nil (w:World) (k:Nat):SlR w k (.slice none 0 0) 0 []:=⟨by simp,none,0,rfl,Nat.le_refl _,Nat.zero_le _,Or.inl rfl⟩
theorem SlR.empty {w:World} {k n:Nat} {v:Value} {cs:List Value} (h:SlR w k v n cs) (hn:n = 0):∃ A c,v = .slice A 0 c /\ c <= maxLen:=by
 subst hn
 obtain ⟨_,A,c,hv,_,hc,_⟩:=h
 exact ⟨A,c,hv,hc⟩
theorem SlR.form {w:World} {k n:Nat} {v:Value} {cs:List Value} (h:SlR w k v n cs) (hn:0 < n) :
   ∃ b o c,v = .slice (some ⟨b,o,none⟩) n c /\ n <= c /\ c <= maxLen /\ b < w.heap.size /\ ∀ i u,cs[i]? = some u -> w.cell? ⟨b,o + i,none⟩ = some u:=by
 obtain ⟨_,A,c,rfl,h1,h2,h3⟩:=h
 rcases h3 with h3 | ⟨b,o,rfl,hlt,hc⟩
 · omega
 · exact ⟨b,o,c,rfl,h1,h2,hlt,hc⟩
theorem SlR.slice {w:World} {k n:Nat} {v:Value} {cs:List Value} (h:SlR w k v n cs):∃ A c,v = .slice A n c /\ n <= c /\ c <= maxLen:=by
 obtain ⟨_,A,c,rfl,h1,h2,_⟩:=h
 exact ⟨A,c,rfl,h1,h2⟩
theorem SlR.le {w:World} {k n:Nat} {v:Value} {cs:List Value} (h:SlR w k v n cs):n <= 9223372036854775807:=by
 obtain ⟨_,A,c,rfl,h1,h2,_⟩:=h
 unfold maxLen at h2
 omega
theorem SlR.lit (w:World) (k n:Nat) (cs:List Value) (hn:cs.length = n * k) (hm:n <= maxLen) (C:Array Value) (hc:C = cs.toArray) (t:TypeId) :
   SlR (w.alloc (.cells C t)) k (.slice (some ⟨w.heap.size,0,none⟩) n n) n cs:=by
 subst hc
 refine ⟨hn,_,_,rfl,Nat.le_refl _,hm,Or.inr ⟨_,_,rfl,by simp,fun i u hu => ?_⟩⟩
 unfold World.cell?
 rw [heap_alloc_new w]
 simpa using hu
def IntsS (w:World) (v:Value) (xs:List Int):Prop:=SlR w 1 v xs.length (xs.map (Value.int .i64))
def StrsS (w:World) (v:Value) (ss:List ByteArray):Prop:=SlR w 1 v ss.length (ss.map Value.string)
theorem StrsS.since {w w':World} {v:Value} {xs:List ByteArray} (h:StrsS w v xs) (hs:Since w w'):StrsS w' v xs:=SlR.below h hs
theorem StrsS.slice {w:World} {v:Value} {xs:List ByteArray} (h:StrsS w v xs):∃ A c,v = .slice A xs.length c /\ xs.length <= c /\ c <= maxLen:=SlR.slice h
namespace Oid
end Oid
namespace Plain
def shortB (m:Nat) (s:ByteArray):Bool:=decide (s.size <= m)
def shortsB (l:List ByteArray) (n m:Nat):Bool:=decide (l.length <= n) && l.all (shortB m)
theorem shortsB_spec (l:List ByteArray) (n m:Nat) (h:shortsB l n m = true):l.length <= n /\ ∀ s ∈ l,s.size <= m:=by
 unfold shortsB at h
 rw [Bool.and_eq_true,List.all_eq_true] at h
 exact ⟨of_decide_eq_true h.1,fun s hs => of_decide_eq_true (h.2 s hs)⟩
def RdSh (l:List ByteArray) (n m:Nat) (q:Bool):Prop:=∀ w x,StrsS w x l -> Calls Tryd.prog 8 #[x,.int .i64 (n:Int),.int .i64 (m:Int)] w fun e w' => e = .returned (.bool q) /\ w = w'
theorem RdSh.calls {l:List ByteArray} {n m:Nat} {q:Bool} (h:RdSh l n m q) {w:World} {x:Value} (hx:StrsS w x l) {R:Ending -> World -> Prop} (k:R (.returned (.bool q)) w):Calls Tryd.prog 8 #[x,.int .i64 (n:Int),.int .i64 (m:Int)] w R :=
 (h w x hx).mono fun _ _ ⟨he,hw⟩ => by subst he; subst hw; exact k
theorem shorts_many (l:List ByteArray) (n m:Nat) (h:n < l.length):RdSh l n m false:=by
 intro w x hx
 have hle:=SlR.le hx
 obtain ⟨A,c,rfl,_⟩:=SlR.slice hx
 obtain ⟨k,hk⟩:∃ k,k = l.length:=⟨_,rfl⟩
 rw [<- hk] at h ⊢
 have t1:decide (n < k) = true:=decide_eq_true h
 clear hx hk hle
 go_enter Tryd.func8,Tryd.ntmps8
 go_wp2_with fail
 go_ret
 exact ⟨rfl,rfl⟩
theorem shorts_nil (n m:Nat):RdSh [] n m true:=by
 intro w x hx
 obtain ⟨A,c,rfl,_⟩:=SlR.empty hx rfl
 have t1:decide ((n:Int) < 0) = false:=decide_eq_false (by omega)
 clear hx
 go_enter Tryd.func8,Tryd.ntmps8
 go_wp2_with fail
 go_loop [7] (fun i => i = .int .i64 0) (fun i => 0 - (intOf i).toNat)
 case atStart => rfl
 case round =>
   subst hrel
   go_wp2_with fail
   go_ret
   exact ⟨rfl,rfl⟩
set_option maxHeartbeats 2000000 in
theorem shorts_rd (l:List ByteArray) (n m:Nat) (q:Bool) (hq:q = shortsB l n m):RdSh l n m q:=by
 by_cases hbig:n < l.length
 · have:q = false:=by rw [hq]; unfold shortsB; rw [decide_eq_false (by omega)]; rfl
   subst this
   exact shorts_many l n m hbig
 by_cases h0:l.length = 0
 · obtain rfl:=List.length_eq_zero_iff.1 h0
   have:q = true:=by rw [hq]; unfold shortsB; simp
   subst this
   exact shorts_nil n m
 intro w x hx
 have hle:=SlR.le hx
 obtain ⟨b,o,c,rfl,h1,h2,h3,h4⟩:=SlR.form hx (by omega)
 have hq2:q = l.all (shortB m):=by rw [hq]; unfold shortsB; rw [decide_eq_true (by omega)]; rfl
 obtain ⟨k0,hk0⟩:∃ k,k = l.length:=⟨_,rfl⟩
 rw [<- hk0] at h1 h0 hbig hle ⊢
 have t1:decide (n < k0) = false:=decide_eq_false hbig
 have HC:=lH (fun i s (hs:l[i]? = some s) => h4 i _ (show (l.map Value.string)[i]? = some (.string s) by rw [List.getElem?_map,hs]; rfl))
 have HN:=lH hk0
 have HQ:=lH hq2
 clear h4 hx hk0 hq hq2
 go_enter Tryd.func8,Tryd.ntmps8
 go_wp2_with fail
 go_loop [7] (fun i => ∃ k:Nat,k <= k0 /\ i = .int .i64 (k:Int) /\ Hid ((l.take k).all (shortB m) = true)) (fun i => k0 - (intOf i).toNat)
 case atStart => exact ⟨0,by omega,rfl,lH rfl⟩
 case round =>
   obtain ⟨k,hk,rfl,HA⟩:=hrel
   by_cases hlt:k < k0
   · obtain ⟨s,hs⟩:∃ s,l[k]? = some s:=⟨l[k]'(by rw [<- HN.out]; exact hlt),List.getElem?_eq_getElem _⟩
     have m0:=HC.out k s hs
     have i1:(0:Int) <= (k:Int):=by omega
     have i2:(k:Int) < (k0:Int):=by omega
     have HA2:Hid ((l.take (k + 1)).all (shortB m) = shortB m s):=lH (by
       obtain ⟨g1,g2⟩:=List.getElem?_eq_some_iff.1 hs
       rw [List.take_succ_eq_append_getElem g1,g2,List.all_append,HA.out]; simp)
     have HM:=lH (List.mem_of_getElem? hs)
     clear hs
     by_cases hz:s.size <= m
     · have t2:decide (m < s.size) = false:=decide_eq_false (by omega)
       have HA3:Hid ((l.take (k + 1)).all (shortB m) = true):=lH (by rw [HA2.out]; exact decide_eq_true hz)
       clear HA2
       go_wp2_with fail
       go_round
       case rel => exact ⟨k + 1,by omega,by go_num,HA3⟩
       case measure => simp [intOf]; omega
     · have t2:decide (m < s.size) = true:=decide_eq_true (by omega)
       have hqf:q = false:=by
         rw [HQ.out,List.all_eq_false]
         exact ⟨_,HM.out,by unfold shortB; rw [decide_eq_false hz]; decide⟩
       subst hqf
       go_wp2_with fail
       go_ret
       exact ⟨rfl,rfl⟩
   · obtain rfl:k0 = k:=by omega
     have hqt:q = true:=by rw [HQ.out]; have h9:=HA.out; rw [HN.out,List.take_length] at h9; exact h9
     subst hqt
     go_wp2_with fail
     go_ret
     exact ⟨rfl,rfl⟩
end Plain
end Go.Proofs.YtcdjfmlanicjlaaDoor
