import Derived.Test.YtpanhhjkecebkaaGreatAp16
import Derived.Test.YtpanhhjkecebkaaGreatAp30
set_option maxRecDepth 100000
namespace Go.Proofs.YtpanhhjkecebkaaGreat
open Go.RowKit
namespace Atf
open Att
def KN (g:Nat) (t:Int) (w:World):Prop:=w.cell? ⟨g,0,none⟩ = some (.int .i64 t) /\ g < w.heap.size
instance (g:Nat) (t:Int):Kp (KN g t):=⟨fun h hb => ⟨(hb.cell (p:=⟨g,0,none⟩) h.2).trans h.1,Nat.lt_of_lt_of_le h.2 hb.size⟩⟩
def Wan (F g:Nat) (t:Int) (P:A2 -> Bool):Prop:=∀ p:A2,KMk (KN g t) F #[.agg #[.int .i64 p.1,.string p.2],.pointer (some ⟨g,0,none⟩)] (.bool (P p))
theorem wan_get (g:Nat) (t:Int):Wan 33 g t (fun p => p.1 == t):=by
 rintro ⟨y,s⟩ w hT
 have m0:(w.alloc (.cells #[.int .i64 y,.string s] 35)).cell? ⟨g,0,none⟩ = some (.int .i64 t):=(Kp.keep hT ((Since.refl w).alloc (.cells #[.int .i64 y,.string s] 35))).1
 have HS:=lH ((Since.refl w).alloc (.cells #[.int .i64 y,.string s] 35))
 clear hT
 go_enter Tryz.func33,Tryz.ntmps33
 go_wp2_with fail
 go_ret
 exact ⟨rfl,HS.out⟩
theorem wan_set1 (g:Nat) (t:Int):Wan 34 g t (fun p => decide (t <= p.1)):=by
 rintro ⟨y,s⟩ w hT
 have m0:(w.alloc (.cells #[.int .i64 y,.string s] 35)).cell? ⟨g,0,none⟩ = some (.int .i64 t):=(Kp.keep hT ((Since.refl w).alloc (.cells #[.int .i64 y,.string s] 35))).1
 have HS:=lH ((Since.refl w).alloc (.cells #[.int .i64 y,.string s] 35))
 clear hT
 go_enter Tryz.func34,Tryz.ntmps34
 go_wp2_with fail
 go_ret
 exact ⟨rfl,HS.out⟩
theorem wan_set2 (g:Nat) (t:Int):Wan 35 g t (fun p => decide (t < p.1)):=by
 rintro ⟨y,s⟩ w hT
 have m0:(w.alloc (.cells #[.int .i64 y,.string s] 35)).cell? ⟨g,0,none⟩ = some (.int .i64 t):=(Kp.keep hT ((Since.refl w).alloc (.cells #[.int .i64 y,.string s] 35))).1
 have HS:=lH ((Since.refl w).alloc (.cells #[.int .i64 y,.string s] 35))
 clear hT
 go_enter Tryz.func35,Tryz.ntmps35
 go_wp2_with fail
 go_ret
 exact ⟨rfl,HS.out⟩
def RdG (F g:Nat) (t:Int) (L:List A2) (n:Nat):Prop:=∀ w x,KN g t w -> AttsS w x L -> Calls Tryz.prog 32 #[x,.func (.func F) #[] #[.pointer (some ⟨g,0,none⟩)]] w fun e w' => e = .returned (.int .i64 (n:Int)) /\ Since w w'
theorem idx_at {L:List A2} {P:A2 -> Bool} {k:Nat} {p:A2} (h:L[k]? = some p) (hn:∀ q ∈ L.take k,P q = false) (hp:P p = true):L.findIdx P = k:=by
 obtain ⟨g1,g2⟩:=List.getElem?_eq_some_iff.1 h
 rw [List.findIdx_eq g1]
 exact ⟨by rw [g2]; exact hp,fun j hj => hn _ (List.mem_take_iff_getElem.2 ⟨j,by omega,rfl⟩)⟩
theorem fnd_nil_get (g:Nat) (t:Int):RdG 33 g t [] 0:=by
 intro w x hT hx
 have HS:=lH (Since.refl w)
 obtain ⟨A,c,rfl,_⟩:=hx.empty rfl
 clear hx hT
 go_enter Tryz.func32,Tryz.ntmps32
 go_wp2_with fail
 go_loop [9] (fun i => i = .int .i64 0) (fun i => 0 - (intOf i).toNat)
 case atStart => rfl
 case round =>
   subst hrel
   go_wp2_with fail
   go_ret
   exact ⟨rfl,HS.out⟩
set_option maxHeartbeats 4000000 in
theorem fnd_get (g:Nat) (t:Int) (P:A2 -> Bool) (hW:Wan 33 g t P) (L:List A2):RdG 33 g t L (L.findIdx P):=by
 by_cases h0:L.length = 0
 · obtain rfl:=List.length_eq_zero_iff.1 h0
   exact fnd_nil_get g t
 intro w x hT hx
 obtain ⟨b,o,c,rfl,h1,h2,h3,h4⟩:=hx.form (by omega)
 obtain ⟨n,hn⟩:∃ n,n = L.length:=⟨_,rfl⟩
 have hle:=hx.le
 rw [<- hn] at h0 h1 hle ⊢
 have HC:=lH h4
 have HN:=lH hn
 have HT:=lH hT
 have HLT:=lH h3
 have HW:=lH hW
 clear h4 hx hn hT h3 hW
 go_enter Tryz.func32,Tryz.ntmps32
 go_wp2_with fail
 go_loopw [9] (fun i wr => ∃ k:Nat,k <= n /\ i = .int .i64 (k:Int) /\ Hid (∀ q ∈ L.take k,P q = false) /\ Hid (KN g t wr) /\ Hid (Since w wr)) (fun i _ => n - (intOf i).toNat)
 case atStart => exact ⟨0,by omega,rfl,lH (by simp),HT,lH (Since.refl w)⟩
 case round =>
   clear HT
   obtain ⟨k,hk,rfl,HA,HT,HS⟩:=hrel
   by_cases hlt:k < n
   · obtain ⟨⟨y,s⟩,hs⟩:∃ s,L[k]? = some s:=⟨L[k]'(by rw [<- HN.out]; exact hlt),List.getElem?_eq_getElem _⟩
     obtain ⟨m0,m1⟩:=HC.out k _ hs
     replace m0:wr.cell? ⟨b,o + k * 2,none⟩ = some (.int .i64 y):=(Below.cell HS.out (p:=⟨b,o + k * 2,none⟩) HLT.out).trans m0
     replace m1:wr.cell? ⟨b,o + k * 2 + 1,none⟩ = some (.string s):=(Below.cell HS.out (p:=⟨b,o + k * 2 + 1,none⟩) HLT.out).trans m1
     have i1:(0:Int) <= (k:Int):=by omega
     have i2:(k:Int) < (n:Int):=by omega
     have HT2:=lH (Kp.keep HT.out ((Since.refl wr).alloc (.cells #[.int .i64 y,.string s] 35)))
     have HS2:=lH (HS.out.alloc (.cells #[.int .i64 y,.string s] 35))
     have c1:=HW.out (y,s)
     cases hz:P (y,s)
     · rw [hz] at c1
       obtain ⟨g1,g2⟩:=List.getElem?_eq_some_iff.1 hs
       have HA2:=lH (show ∀ q ∈ L.take (k + 1),P q = false by
         rw [List.take_succ_eq_append_getElem g1,g2]
         intro q hq
         rw [List.mem_append,List.mem_singleton] at hq
         rcases hq with hq | rfl
         · exact HA.out q hq
         · exact hz)
       clear hs hz g1 g2 HT HS
       go_wp2_with fail
       refine c1.calls0 HT2.out ?_
       intro wy hy
       have HT3:=lH (Kp.keep HT2.out hy)
       have HS3:=lH (HS2.out.step hy)
       clear hy m0 m1
       go_wp2_with fail
       go_roundw
       case rel => exact ⟨k + 1,by omega,by go_num,HA2,HT3,HS3⟩
       case measure => simp [intOf]; omega
     · rw [hz] at c1
       have HG:=lH (idx_at hs HA.out hz)
       clear hs hz HT HS
       go_wp2_with fail
       refine c1.calls0 HT2.out ?_
       intro wy hy
       have HS3:=lH (HS2.out.step hy)
       clear hy m0 m1
       go_wp2_with fail
       go_ret
       exact ⟨by rw [HG.out] <;> rfl,HS3.out⟩
   · obtain rfl:n = k:=by omega
     have HG:=lH (show L.findIdx P = n by
       have h9:=HA.out
       rw [HN.out,List.take_length] at h9
       rw [HN.out]; exact List.findIdx_eq_length_of_false h9)
     go_wp2_with fail
     go_ret
     exact ⟨by rw [HG.out] <;> rfl,HS.out⟩
theorem fnd_nil_set1 (g:Nat) (t:Int):RdG 34 g t [] 0:=by
 intro w x hT hx
 have HS:=lH (Since.refl w)
 obtain ⟨A,c,rfl,_⟩:=hx.empty rfl
 clear hx hT
 go_enter Tryz.func32,Tryz.ntmps32
 go_wp2_with fail
 go_loop [9] (fun i => i = .int .i64 0) (fun i => 0 - (intOf i).toNat)
 case atStart => rfl
 case round =>
   subst hrel
   go_wp2_with fail
   go_ret
   exact ⟨rfl,HS.out⟩
set_option maxHeartbeats 4000000 in
theorem fnd_set1 (g:Nat) (t:Int) (P:A2 -> Bool) (hW:Wan 34 g t P) (L:List A2):RdG 34 g t L (L.findIdx P):=by
 by_cases h0:L.length = 0
 · obtain rfl:=List.length_eq_zero_iff.1 h0
   exact fnd_nil_set1 g t
 intro w x hT hx
 obtain ⟨b,o,c,rfl,h1,h2,h3,h4⟩:=hx.form (by omega)
 obtain ⟨n,hn⟩:∃ n,n = L.length:=⟨_,rfl⟩
 have hle:=hx.le
 rw [<- hn] at h0 h1 hle ⊢
 have HC:=lH h4
 have HN:=lH hn
 have HT:=lH hT
 have HLT:=lH h3
 have HW:=lH hW
 clear h4 hx hn hT h3 hW
 go_enter Tryz.func32,Tryz.ntmps32
 go_wp2_with fail
 go_loopw [9] (fun i wr => ∃ k:Nat,k <= n /\ i = .int .i64 (k:Int) /\ Hid (∀ q ∈ L.take k,P q = false) /\ Hid (KN g t wr) /\ Hid (Since w wr)) (fun i _ => n - (intOf i).toNat)
 case atStart => exact ⟨0,by omega,rfl,lH (by simp),HT,lH (Since.refl w)⟩
 case round =>
   clear HT
   obtain ⟨k,hk,rfl,HA,HT,HS⟩:=hrel
   by_cases hlt:k < n
   · obtain ⟨⟨y,s⟩,hs⟩:∃ s,L[k]? = some s:=⟨L[k]'(by rw [<- HN.out]; exact hlt),List.getElem?_eq_getElem _⟩
     obtain ⟨m0,m1⟩:=HC.out k _ hs
     replace m0:wr.cell? ⟨b,o + k * 2,none⟩ = some (.int .i64 y):=(Below.cell HS.out (p:=⟨b,o + k * 2,none⟩) HLT.out).trans m0
     replace m1:wr.cell? ⟨b,o + k * 2 + 1,none⟩ = some (.string s):=(Below.cell HS.out (p:=⟨b,o + k * 2 + 1,none⟩) HLT.out).trans m1
     have i1:(0:Int) <= (k:Int):=by omega
     have i2:(k:Int) < (n:Int):=by omega
     have HT2:=lH (Kp.keep HT.out ((Since.refl wr).alloc (.cells #[.int .i64 y,.string s] 35)))
     have HS2:=lH (HS.out.alloc (.cells #[.int .i64 y,.string s] 35))
     have c1:=HW.out (y,s)
     cases hz:P (y,s)
     · rw [hz] at c1
       obtain ⟨g1,g2⟩:=List.getElem?_eq_some_iff.1 hs
       have HA2:=lH (show ∀ q ∈ L.take (k + 1),P q = false by
         rw [List.take_succ_eq_append_getElem g1,g2]
         intro q hq
         rw [List.mem_append,List.mem_singleton] at hq
         rcases hq with hq | rfl
         · exact HA.out q hq
         · exact hz)
       clear hs hz g1 g2 HT HS
       go_wp2_with fail
       refine c1.calls0 HT2.out ?_
       intro wy hy
       have HT3:=lH (Kp.keep HT2.out hy)
       have HS3:=lH (HS2.out.step hy)
       clear hy m0 m1
       go_wp2_with fail
       go_roundw
       case rel => exact ⟨k + 1,by omega,by go_num,HA2,HT3,HS3⟩
       case measure => simp [intOf]; omega
     · rw [hz] at c1
       have HG:=lH (idx_at hs HA.out hz)
       clear hs hz HT HS
       go_wp2_with fail
       refine c1.calls0 HT2.out ?_
       intro wy hy
       have HS3:=lH (HS2.out.step hy)
       clear hy m0 m1
       go_wp2_with fail
       go_ret
       exact ⟨by rw [HG.out] <;> rfl,HS3.out⟩
   · obtain rfl:n = k:=by omega
     have HG:=lH (show L.findIdx P = n by
       have h9:=HA.out
       rw [HN.out,List.take_length] at h9
       rw [HN.out]; exact List.findIdx_eq_length_of_false h9)
     go_wp2_with fail
     go_ret
     exact ⟨by rw [HG.out] <;> rfl,HS.out⟩
theorem fnd_nil_set2 (g:Nat) (t:Int):RdG 35 g t [] 0:=by
 intro w x hT hx
 have HS:=lH (Since.refl w)
 obtain ⟨A,c,rfl,_⟩:=hx.empty rfl
 clear hx hT
 go_enter Tryz.func32,Tryz.ntmps32
 go_wp2_with fail
 go_loop [9] (fun i => i = .int .i64 0) (fun i => 0 - (intOf i).toNat)
 case atStart => rfl
 case round =>
   subst hrel
   go_wp2_with fail
   go_ret
   exact ⟨rfl,HS.out⟩
set_option maxHeartbeats 4000000 in
theorem fnd_set2 (g:Nat) (t:Int) (P:A2 -> Bool) (hW:Wan 35 g t P) (L:List A2):RdG 35 g t L (L.findIdx P):=by
 by_cases h0:L.length = 0
 · obtain rfl:=List.length_eq_zero_iff.1 h0
   exact fnd_nil_set2 g t
 intro w x hT hx
 obtain ⟨b,o,c,rfl,h1,h2,h3,h4⟩:=hx.form (by omega)
 obtain ⟨n,hn⟩:∃ n,n = L.length:=⟨_,rfl⟩
 have hle:=hx.le
 rw [<- hn] at h0 h1 hle ⊢
 have HC:=lH h4
 have HN:=lH hn
 have HT:=lH hT
 have HLT:=lH h3
 have HW:=lH hW
 clear h4 hx hn hT h3 hW
 go_enter Tryz.func32,Tryz.ntmps32
 go_wp2_with fail
 go_loopw [9] (fun i wr => ∃ k:Nat,k <= n /\ i = .int .i64 (k:Int) /\ Hid (∀ q ∈ L.take k,P q = false) /\ Hid (KN g t wr) /\ Hid (Since w wr)) (fun i _ => n - (intOf i).toNat)
 case atStart => exact ⟨0,by omega,rfl,lH (by simp),HT,lH (Since.refl w)⟩
 case round =>
   clear HT
   obtain ⟨k,hk,rfl,HA,HT,HS⟩:=hrel
   by_cases hlt:k < n
   · obtain ⟨⟨y,s⟩,hs⟩:∃ s,L[k]? = some s:=⟨L[k]'(by rw [<- HN.out]; exact hlt),List.getElem?_eq_getElem _⟩
     obtain ⟨m0,m1⟩:=HC.out k _ hs
     replace m0:wr.cell? ⟨b,o + k * 2,none⟩ = some (.int .i64 y):=(Below.cell HS.out (p:=⟨b,o + k * 2,none⟩) HLT.out).trans m0
     replace m1:wr.cell? ⟨b,o + k * 2 + 1,none⟩ = some (.string s):=(Below.cell HS.out (p:=⟨b,o + k * 2 + 1,none⟩) HLT.out).trans m1
     have i1:(0:Int) <= (k:Int):=by omega
     have i2:(k:Int) < (n:Int):=by omega
     have HT2:=lH (Kp.keep HT.out ((Since.refl wr).alloc (.cells #[.int .i64 y,.string s] 35)))
     have HS2:=lH (HS.out.alloc (.cells #[.int .i64 y,.string s] 35))
     have c1:=HW.out (y,s)
     cases hz:P (y,s)
     · rw [hz] at c1
       obtain ⟨g1,g2⟩:=List.getElem?_eq_some_iff.1 hs
       have HA2:=lH (show ∀ q ∈ L.take (k + 1),P q = false by
         rw [List.take_succ_eq_append_getElem g1,g2]
         intro q hq
         rw [List.mem_append,List.mem_singleton] at hq
         rcases hq with hq | rfl
         · exact HA.out q hq
         · exact hz)
       clear hs hz g1 g2 HT HS
       go_wp2_with fail
       refine c1.calls0 HT2.out ?_
       intro wy hy
       have HT3:=lH (Kp.keep HT2.out hy)
       have HS3:=lH (HS2.out.step hy)
       clear hy m0 m1
       go_wp2_with fail
       go_roundw
       case rel => exact ⟨k + 1,by omega,by go_num,HA2,HT3,HS3⟩
       case measure => simp [intOf]; omega
     · rw [hz] at c1
       have HG:=lH (idx_at hs HA.out hz)
       clear hs hz HT HS
       go_wp2_with fail
       refine c1.calls0 HT2.out ?_
       intro wy hy
       have HS3:=lH (HS2.out.step hy)
       clear hy m0 m1
       go_wp2_with fail
       go_ret
       exact ⟨by rw [HG.out] <;> rfl,HS3.out⟩
   · obtain rfl:n = k:=by omega
     have HG:=lH (show L.findIdx P = n by
       have h9:=HA.out
       rw [HN.out,List.take_length] at h9
       rw [HN.out]; exact List.findIdx_eq_length_of_false h9)
     go_wp2_with fail
     go_ret
     exact ⟨by rw [HG.out] <;> rfl,HS.out⟩
end Atf
namespace Atf
open Att
def getP (L:List A2) (t:Int):Option A2:=L.find? (fun p => decide (p.1 = t))
def getS (L:List A2) (t:Int):ByteArray:=match getP L t with | some p => p.2 | none => ⟨#[]⟩
def getB (L:List A2) (t:Int):Bool:=(getP L t).isSome
def getV (L:List A2) (t:Int):Value:=.tuple #[.string (getS L t),.bool (getB L t)]
theorem rget_nil (t:Int):RdA 10 [] (fun x => #[x,.int .i64 t]) (getV [] t):=by
 intro w x hx
 have HS:=lH (Since.refl w)
 obtain ⟨A,c,rfl,_⟩:=hx.empty rfl
 clear hx
 go_enter Tryz.func10,Tryz.ntmps10
 go_wp2_with fail
 go_loop [6] (fun i => i = .int .i64 0) (fun i => 0 - (intOf i).toNat)
 case atStart => rfl
 case round =>
   subst hrel
   go_wp2_with fail
   go_ret2
   exact ⟨rfl,HS.out⟩
theorem find_at {L:List A2} {t:Int} {k:Nat} {p:A2} (h:L[k]? = some p) (hn:∀ q ∈ L.take k,q.1 ≠ t) (hp:p.1 = t):getP L t = some p:=by
 obtain ⟨g1,g2⟩:=List.getElem?_eq_some_iff.1 h
 have e:L = L.take k ++ (p :: L.drop (k + 1)):=by
   rw [<- g2,List.getElem_cons_drop,List.take_append_drop]
 unfold getP
 rw [e,List.find?_append]
 have h0:(L.take k).find? (fun p => decide (p.1 = t)) = none:=List.find?_eq_none.2 (fun q hq => by simpa using hn q hq)
 rw [h0]
 simp [hp]
theorem find_none {L:List A2} {t:Int} (hn:∀ q ∈ L,q.1 ≠ t):getP L t = none:=List.find?_eq_none.2 (fun q hq => by simpa using hn q hq)
set_option maxHeartbeats 4000000 in
theorem rget_rd (L:List A2) (t:Int):RdA 10 L (fun x => #[x,.int .i64 t]) (getV L t):=by
 by_cases h0:L.length = 0
 · obtain rfl:=List.length_eq_zero_iff.1 h0
   exact rget_nil t
 intro w x hx
 obtain ⟨b,o,c,rfl,h1,h2,h3,h4⟩:=hx.form (by omega)
 obtain ⟨n,hn⟩:∃ n,n = L.length:=⟨_,rfl⟩
 have hle:=hx.le
 rw [<- hn] at h0 h1 hle ⊢
 have HS:=lH (Since.refl w)
 have HC:=lH h4
 have HN:=lH hn
 clear h4 hx hn
 go_enter Tryz.func10,Tryz.ntmps10
 go_wp2_with fail
 go_loop [6] (fun i => ∃ k:Nat,k <= n /\ i = .int .i64 (k:Int) /\ Hid (∀ q ∈ L.take k,q.1 ≠ t)) (fun i => n - (intOf i).toNat)
 case atStart => exact ⟨0,by omega,rfl,lH (by simp)⟩
 case round =>
   obtain ⟨k,hk,rfl,HA⟩:=hrel
   by_cases hlt:k < n
   · obtain ⟨⟨y,s⟩,hs⟩:∃ s,L[k]? = some s:=⟨L[k]'(by rw [<- HN.out]; exact hlt),List.getElem?_eq_getElem _⟩
     obtain ⟨m0,m1⟩:=HC.out k _ hs
     replace m0:w.cell? ⟨b,o + k * 2,none⟩ = some (.int .i64 y):=m0
     replace m1:w.cell? ⟨b,o + k * 2 + 1,none⟩ = some (.string s):=m1
     have i1:(0:Int) <= (k:Int):=by omega
     have i2:(k:Int) < (n:Int):=by omega
     by_cases hz:y = t
     · have t2:(y == t) = true:=beq_iff_eq.2 hz
       have HG:=lH (find_at hs HA.out hz)
       clear hs hz
       go_wp2_with fail
       go_ret2
       exact ⟨by unfold getV getS getB; rw [HG.out]; rfl,HS.out⟩
     · have t2:(y == t) = false:=beq_eq_false_iff_ne.2 hz
       obtain ⟨g1,g2⟩:=List.getElem?_eq_some_iff.1 hs
       have HA2:=lH (show ∀ q ∈ L.take (k + 1),q.1 ≠ t by
         rw [List.take_succ_eq_append_getElem g1,g2]
         intro q hq
         rw [List.mem_append,List.mem_singleton] at hq
         rcases hq with hq | rfl
         · exact HA.out q hq
         · exact hz)
       clear hs hz g1 g2
       go_wp2_with fail
       go_round
       case rel => exact ⟨k + 1,by omega,by go_num,HA2⟩
       case measure => simp [intOf]; omega
   · obtain rfl:n = k:=by omega
     have HG:=lH (find_none (L:=L) (t:=t) (by have h9:=HA.out; rw [HN.out,List.take_length] at h9; exact h9))
     go_wp2_with fail
     go_ret2
     exact ⟨by unfold getV getS getB; rw [HG.out]; rfl,HS.out⟩
def idxN (L:List A2) (t:Int):Nat:=L.findIdx (fun p => p.1 == t)
theorem getP_idx (L:List A2) (t:Int) (h:idxN L t < L.length):∃ p,L[idxN L t]? = some p /\ getP L t = some p:=by
 refine ⟨L[idxN L t],List.getElem?_eq_getElem h, ?_⟩
 unfold getP idxN at *
 exact List.find?_eq_some_iff_getElem.2 ⟨by have:=List.findIdx_getElem (w:=h); simpa using this,_,h,rfl,fun j hj => by simpa using List.not_of_lt_findIdx hj⟩
theorem getP_no (L:List A2) (t:Int) (h:¬ idxN L t < L.length):getP L t = none:=by
 unfold getP idxN at *
 refine List.find?_eq_none.2 fun q hq hd => h ?_
 exact List.findIdx_lt_length_of_exists ⟨q,hq,hd⟩
set_option maxHeartbeats 2000000 in
theorem get_rd (L:List A2) (t:Int):RdA 9 L (fun x => #[x,.int .i64 t]) (getV L t):=by
 intro w x hx
 have hle:=hx.le
 have c1:RdG 33 w.heap.size t L (idxN L t):=fnd_get w.heap.size t _ (wan_get w.heap.size t) L
 have hT:=lH (show KN w.heap.size t (w.alloc (.cells #[.int .i64 t] 3)) from ⟨(World.cell?_alloc_new _ _ _ _).trans rfl,by simp⟩)
 have HS:=lH ((Since.refl w).alloc (.cells #[.int .i64 t] 3))
 have HX:=lH (hx.since ((Since.refl w).alloc (.cells #[.int .i64 t] 3)))
 by_cases h:idxN L t < L.length
 · obtain ⟨p,hp1,hp2⟩:=getP_idx L t h
   obtain ⟨b,o,c,rfl,h1,h2,h3,h4⟩:=hx.form (by omega)
   obtain ⟨-,m1⟩:=h4 _ _ hp1
   have HG:=lH hp2
   have HLT:=lH h3
   obtain ⟨k,hk⟩:∃ k,k = idxN L t:=⟨_,rfl⟩
   obtain ⟨n,hn⟩:∃ n,n = L.length:=⟨_,rfl⟩
   rw [<- hk] at c1 h m1
   rw [<- hn] at h1 h hle HX ⊢
   have HM:=lH m1
   have i1:(0:Int) <= (k:Int):=by omega
   have i2:(k:Int) < (n:Int):=by omega
   have t1:((k:Int) == (n:Int)) = false:=beq_eq_false_iff_ne.2 (by omega)
   clear hp1 hp2 h4 m1 h3 hx hk hn
   go_enter Tryz.func9,Tryz.ntmps9
   go_wp2_with fail
   refine (c1 _ _ hT.out HX.out).mono ?_
   rintro r w1 ⟨rfl,h5⟩
   replace HS:=lH (HS.out.step h5)
   have m1:w1.cell? ⟨b,o + k * 2 + 1,none⟩ = some (.string p.2):=(Below.cell HS.out (p:=⟨b,o + k * 2 + 1,none⟩) HLT.out).trans HM.out
   clear h5
   go_wp2_with fail
   go_ret2
   exact ⟨by unfold getV getS getB; rw [HG.out]; rfl,HS.out⟩
 · have HG:=lH (getP_no L t h)
   have hk:idxN L t = L.length:=by
     have:=List.findIdx_le_length (xs:=L) (p:=fun p:A2 => p.1 == t)
     unfold idxN at h ⊢; omega
   rw [hk] at c1
   obtain ⟨A,c,rfl,hc1,hc2⟩:=hx.slice
   obtain ⟨n,hn⟩:∃ n,n = L.length:=⟨_,rfl⟩
   rw [<- hn] at c1 hle HX hc1 ⊢
   have t1:((n:Int) == (n:Int)) = true:=beq_self_eq_true _
   clear hx hk h hn
   go_enter Tryz.func9,Tryz.ntmps9
   go_wp2_with fail
   refine (c1 _ _ hT.out HX.out).mono ?_
   rintro r w1 ⟨rfl,h5⟩
   replace HS:=lH (HS.out.step h5)
   clear h5
   go_wp2_with fail
   go_ret2
   exact ⟨by unfold getV getS getB; rw [HG.out]; rfl,HS.out⟩
end Atf
end Go.Proofs.YtpanhhjkecebkaaGreat
