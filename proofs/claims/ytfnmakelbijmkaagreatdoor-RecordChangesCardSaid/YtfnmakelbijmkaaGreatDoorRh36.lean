import Derived.Test.YtfnmakelbijmkaaGreatDoorRh17
import Derived.Test.YtfnmakelbijmkaaGreatDoorRh33
set_option maxRecDepth 100000
namespace Go.Proofs.YtfnmakelbijmkaaGreatDoor
open Go.RowKit
namespace Rec
open Att
theorem att_cells {H:Type} {enc:TypeId × Value -> H} {w:World} {sp:Nat -> Bool} {held:Bool} {m:Nat} {cs:List Value} {z:DataW H × List MemPlace} (h:DataW.trod enc Tryz.prog w 0 sp held m 39 cs = some z) :
   ∃ p:A2,cs = ac p /\ (Lit.int .i64 p.1).wf = true /\ p.2.size <= maxLen:=by
 obtain ⟨y0,y1,n,_,hl,h0,h1⟩:=Go.ChangeShapes.trod_struct2 Tryz.underlying39 h
 have hC:Tryz.prog.cellsOf 39 = 2:=by kernel_rfl
 have hc:Tryz.prog.cellsOf 9 = 1:=by kernel_rfl
 have hci:Tryz.prog.cellsOf 3 = 1:=by kernel_rfl
 rw [hC] at hl
 match cs,hl with
 | [u,v],_ =>
   dsimp only at h0 h1
   rw [hci] at h0
   rw [hc] at h1
   obtain ⟨x,e0,_,w0⟩:=DataW.trod_int Tryz.underlying3 h0
   obtain ⟨y,e1,_,w1⟩:=DataW.trod_string Tryz.underlying9 h1
   simp at e0 e1
   subst e0 e1
   exact ⟨(x,y),rfl,w0,w1⟩
theorem atts_arg {H:Type} {enc:TypeId × Value -> H} {w:World} {sp:Nat -> Bool} {held:Bool} {fuel:Nat} {A:Option Addr} {n c:Nat} {d:DataW H} {ps:List MemPlace}
   (hf:DataW.trod enc Tryz.prog w 0 sp held fuel 22 [.slice A n c] = some (d,ps)) (hlt:∀ x ∈ ps,x.block < w.heap.size) :
   ∃ l:List A2,AttsS w (.slice A n c) l /\ n = l.length /\ ∀ p ∈ l,(Lit.int .i64 p.1).wf = true /\ p.2.size <= maxLen:=by
 obtain ⟨l,h1,h2,h3⟩:=arg_elems (k:=2) ac (fun p => (Lit.int .i64 p.1).wf = true /\ p.2.size <= maxLen) Tryz.underlying22 (by kernel_rfl) (by decide) (fun _ => rfl)
   (fun m cs z hz _ _ => att_cells hz) hf hlt
 refine ⟨l, ?_,h1,h3⟩
 subst h1
 exact h2
theorem record_arg {H:Type} {enc:TypeId × Value -> H} {w:World} {sp:Nat -> Bool} {held:Bool} {r:Reach} {b0:Nat} {x:Value} {d:DataW H} {ps:List MemPlace}
   (hv:Value.okWide Tryz.prog w r b0 26 x) (h:DataW.Trod enc Tryz.prog w 0 sp held 26 x d ps) (hlt:∀ x ∈ ps,x.block < w.heap.size) :
   ∃ K k A n c L u m v e,x = .agg #[.int .i64 K,.string k,.slice A n c,.string u,.string m,.string v,.string e] /\ (Lit.int .i64 K).wf = true /\ k.size <= maxLen /\ AttsS w (.slice A n c) L /\ n = L.length /\ (∀ p ∈ L,(Lit.int .i64 p.1).wf = true /\ p.2.size <= maxLen) /\ u.size <= maxLen /\ m.size <= maxLen /\ v.size <= maxLen /\ e.size <= maxLen:=by
 obtain ⟨cs,rfl,hsz⟩:=Go.WideShapes.okWide_struct Tryz.underlying26 hv
 have c7:Tryz.prog.cellsOf 26 = 7:=by kernel_rfl
 have c4:Tryz.prog.cellsOf 24 = 4:=by kernel_rfl
 have ci:Tryz.prog.cellsOf 3 = 1:=by kernel_rfl
 have cs1:Tryz.prog.cellsOf 9 = 1:=by kernel_rfl
 have cl1:Tryz.prog.cellsOf 22 = 1:=by kernel_rfl
 rw [c7] at hsz
 obtain ⟨a0,a1,a2,a3,a4,a5,a6,rfl⟩:∃ a0 a1 a2 a3 a4 a5 a6,cs = #[a0,a1,a2,a3,a4,a5,a6]:=by
   obtain ⟨l⟩:=cs
   match l,hsz with
   | [a0,a1,a2,a3,a4,a5,a6],_ => exact ⟨a0,a1,a2,a3,a4,a5,a6,rfl⟩
 obtain ⟨fuel,hf⟩:=h
 simp only [Value.cells] at hf
 obtain ⟨y0,y1,y2,y3,q,hps,_,h0,h1,h2,h3⟩:=Go.Joins.trod_struct4 Tryz.underlying26 hf
 dsimp only at h0 h1 h2 h3
 rw [ci] at h0
 rw [cs1] at h1
 rw [cl1] at h2
 rw [c4] at h3
 obtain ⟨z0,z1,z2,z3,q',_,_,k0,k1,k2,k3⟩:=Go.Joins.trod_struct4 Tryz.underlying24 h3
 dsimp only at k0 k1 k2 k3
 rw [cs1] at k0 k1 k2 k3
 obtain ⟨K,e0,_,w0⟩:=DataW.trod_int Tryz.underlying3 h0
 obtain ⟨k,e1,_,w1⟩:=DataW.trod_string Tryz.underlying9 h1
 obtain ⟨u,e3,_,w3⟩:=DataW.trod_string Tryz.underlying9 k0
 obtain ⟨m,e4,_,w4⟩:=DataW.trod_string Tryz.underlying9 k1
 obtain ⟨v,e5,_,w5⟩:=DataW.trod_string Tryz.underlying9 k2
 obtain ⟨e,e6,_,w6⟩:=DataW.trod_string Tryz.underlying9 k3
 simp at e0 e1 e3 e4 e5 e6
 subst e0 e1 e3 e4 e5 e6
 have h2':DataW.trod enc Tryz.prog w 0 sp held q 22 [a2] = some y2:=by simpa using h2
 obtain ⟨A,n,c,rfl⟩:∃ A n c,a2 = .slice A n c:=by
   rcases Go.Deep.open_slice Tryz.underlying22 h2' with ⟨hcs,_⟩ | ⟨a,len,cap,m,q,D,Pl,hcs,_⟩
   · exact ⟨none,0,0,by simpa using hcs⟩
   · exact ⟨_,_,_,by simpa using hcs⟩
 obtain ⟨L,l1,l2,l3⟩:=atts_arg h2' (fun x hx => hlt x (by rw [(Prod.mk.inj hps).2]; simp [hx]))
 exact ⟨K,k,A,n,c,L,u,m,v,e,rfl,w0,w1,l1,l2,l3,w3,w4,w5,w6⟩
end Rec
namespace Atf
open Att
def KN (g:Nat) (t:Int) (w:World):Prop:=w.cell? ⟨g,0,none⟩ = some (.int .i64 t) /\ g < w.heap.size
instance (g:Nat) (t:Int):Kp (KN g t):=⟨fun h hb => ⟨(hb.cell (p:=⟨g,0,none⟩) h.2).trans h.1,Nat.lt_of_lt_of_le h.2 hb.size⟩⟩
def Wan (F g:Nat) (t:Int) (P:A2 -> Bool):Prop:=∀ p:A2,KMk (KN g t) F #[.agg #[.int .i64 p.1,.string p.2],.pointer (some ⟨g,0,none⟩)] (.bool (P p))
theorem wan_drop (g:Nat) (t:Int):Wan 54 g t (fun p => p.1 == t):=by
 rintro ⟨y,s⟩ w hT
 have m0:(w.alloc (.cells #[.int .i64 y,.string s] 39)).cell? ⟨g,0,none⟩ = some (.int .i64 t):=(Kp.keep hT ((Since.refl w).alloc (.cells #[.int .i64 y,.string s] 39))).1
 have HS:=lH ((Since.refl w).alloc (.cells #[.int .i64 y,.string s] 39))
 clear hT
 go_enter Tryz.func54,Tryz.ntmps54
 go_wp2_with fail
 go_ret
 exact ⟨rfl,HS.out⟩
theorem wan_set1 (g:Nat) (t:Int):Wan 47 g t (fun p => decide (t <= p.1)):=by
 rintro ⟨y,s⟩ w hT
 have m0:(w.alloc (.cells #[.int .i64 y,.string s] 39)).cell? ⟨g,0,none⟩ = some (.int .i64 t):=(Kp.keep hT ((Since.refl w).alloc (.cells #[.int .i64 y,.string s] 39))).1
 have HS:=lH ((Since.refl w).alloc (.cells #[.int .i64 y,.string s] 39))
 clear hT
 go_enter Tryz.func47,Tryz.ntmps47
 go_wp2_with fail
 go_ret
 exact ⟨rfl,HS.out⟩
theorem wan_set2 (g:Nat) (t:Int):Wan 48 g t (fun p => decide (t < p.1)):=by
 rintro ⟨y,s⟩ w hT
 have m0:(w.alloc (.cells #[.int .i64 y,.string s] 39)).cell? ⟨g,0,none⟩ = some (.int .i64 t):=(Kp.keep hT ((Since.refl w).alloc (.cells #[.int .i64 y,.string s] 39))).1
 have HS:=lH ((Since.refl w).alloc (.cells #[.int .i64 y,.string s] 39))
 clear hT
 go_enter Tryz.func48,Tryz.ntmps48
 go_wp2_with fail
 go_ret
 exact ⟨rfl,HS.out⟩
def RdG (F g:Nat) (t:Int) (L:List A2) (n:Nat):Prop:=∀ w x,KN g t w -> AttsS w x L -> Calls Tryz.prog 46 #[x,.func (.func F) #[] #[.pointer (some ⟨g,0,none⟩)]] w fun e w' => e = .returned (.int .i64 (n:Int)) /\ Since w w'
theorem idx_at {L:List A2} {P:A2 -> Bool} {k:Nat} {p:A2} (h:L[k]? = some p) (hn:∀ q ∈ L.take k,P q = false) (hp:P p = true):L.findIdx P = k:=by
 obtain ⟨g1,g2⟩:=List.getElem?_eq_some_iff.1 h
 rw [List.findIdx_eq g1]
 exact ⟨by rw [g2]; exact hp,fun j hj => hn _ (List.mem_take_iff_getElem.2 ⟨j,by omega,rfl⟩)⟩
theorem fnd_nil_drop (g:Nat) (t:Int):RdG 54 g t [] 0:=by
 intro w x hT hx
 have HS:=lH (Since.refl w)
 obtain ⟨A,c,rfl,_⟩:=hx.empty rfl
 clear hx hT
 go_enter Tryz.func46,Tryz.ntmps46
 go_wp2_with fail
 go_loop [9] (fun i => i = .int .i64 0) (fun i => 0 - (intOf i).toNat)
 case atStart => rfl
 case round =>
   subst hrel
   go_wp2_with fail
   go_ret
   exact ⟨rfl,HS.out⟩
set_option maxHeartbeats 4000000 in
theorem fnd_drop (g:Nat) (t:Int) (P:A2 -> Bool) (hW:Wan 54 g t P) (L:List A2):RdG 54 g t L (L.findIdx P):=by
 by_cases h0:L.length = 0
 · obtain rfl:=List.length_eq_zero_iff.1 h0
   exact fnd_nil_drop g t
 intro w x hT hx
 obtain ⟨b,o,c,rfl,h1,h2,h3,h4⟩:=hx.form (by omega)
 obtain ⟨n,hn⟩:∃ n,n = L.length:=⟨_,rfl⟩
 have hle:=hx.le
 rw [<- hn] at h0 h1 hle ⊢
 have HC:=lH h4
 have HN:=lH hn
 have HT:=lH hT
 have HLT:=lH h3
 have HW:=lH hW
 clear h4 hx hn hT h3 hW
 go_enter Tryz.func46,Tryz.ntmps46
 go_wp2_with fail
 go_loopw [9] (fun i wr => ∃ k:Nat,k <= n /\ i = .int .i64 (k:Int) /\ Hid (∀ q ∈ L.take k,P q = false) /\ Hid (KN g t wr) /\ Hid (Since w wr)) (fun i _ => n - (intOf i).toNat)
 case atStart => exact ⟨0,by omega,rfl,lH (by simp),HT,lH (Since.refl w)⟩
 case round =>
   clear HT
   obtain ⟨k,hk,rfl,HA,HT,HS⟩:=hrel
   by_cases hlt:k < n
   · obtain ⟨⟨y,s⟩,hs⟩:∃ s,L[k]? = some s:=⟨L[k]'(by rw [<- HN.out]; exact hlt),List.getElem?_eq_getElem _⟩
     obtain ⟨m0,m1⟩:=HC.out k _ hs
     replace m0:wr.cell? ⟨b,o + k * 2,none⟩ = some (.int .i64 y):=(Below.cell HS.out (p:=⟨b,o + k * 2,none⟩) HLT.out).trans m0
     replace m1:wr.cell? ⟨b,o + k * 2 + 1,none⟩ = some (.string s):=(Below.cell HS.out (p:=⟨b,o + k * 2 + 1,none⟩) HLT.out).trans m1
     have i1:(0:Int) <= (k:Int):=by omega
     have i2:(k:Int) < (n:Int):=by omega
     have HT2:=lH (Kp.keep HT.out ((Since.refl wr).alloc (.cells #[.int .i64 y,.string s] 39)))
     have HS2:=lH (HS.out.alloc (.cells #[.int .i64 y,.string s] 39))
     have c1:=HW.out (y,s)
     cases hz:P (y,s)
     · rw [hz] at c1
       obtain ⟨g1,g2⟩:=List.getElem?_eq_some_iff.1 hs
       have HA2:=lH (show ∀ q ∈ L.take (k + 1),P q = false by
         rw [List.take_succ_eq_append_getElem g1,g2]
         intro q hq
         rw [List.mem_append,List.mem_singleton] at hq
         rcases hq with hq | rfl
         · exact HA.out q hq
         · exact hz)
       clear hs hz g1 g2 HT HS
       go_wp2_with fail
       refine c1.calls0 HT2.out ?_
       intro wy hy
       have HT3:=lH (Kp.keep HT2.out hy)
       have HS3:=lH (HS2.out.step hy)
       clear hy m0 m1
       go_wp2_with fail
       go_roundw
       case rel => exact ⟨k + 1,by omega,by go_num,HA2,HT3,HS3⟩
       case measure => simp [intOf]; omega
     · rw [hz] at c1
       have HG:=lH (idx_at hs HA.out hz)
       clear hs hz HT HS
       go_wp2_with fail
       refine c1.calls0 HT2.out ?_
       intro wy hy
       have HS3:=lH (HS2.out.step hy)
       clear hy m0 m1
       go_wp2_with fail
       go_ret
       exact ⟨by rw [HG.out] <;> rfl,HS3.out⟩
   · obtain rfl:n = k:=by omega
     have HG:=lH (show L.findIdx P = n by
       have h9:=HA.out
       rw [HN.out,List.take_length] at h9
       rw [HN.out]; exact List.findIdx_eq_length_of_false h9)
     go_wp2_with fail
     go_ret
     exact ⟨by rw [HG.out] <;> rfl,HS.out⟩
theorem fnd_nil_set1 (g:Nat) (t:Int):RdG 47 g t [] 0:=by
 intro w x hT hx
 have HS:=lH (Since.refl w)
 obtain ⟨A,c,rfl,_⟩:=hx.empty rfl
 clear hx hT
 go_enter Tryz.func46,Tryz.ntmps46
 go_wp2_with fail
 go_loop [9] (fun i => i = .int .i64 0) (fun i => 0 - (intOf i).toNat)
 case atStart => rfl
 case round =>
   subst hrel
   go_wp2_with fail
   go_ret
   exact ⟨rfl,HS.out⟩
set_option maxHeartbeats 4000000 in
theorem fnd_set1 (g:Nat) (t:Int) (P:A2 -> Bool) (hW:Wan 47 g t P) (L:List A2):RdG 47 g t L (L.findIdx P):=by
 by_cases h0:L.length = 0
 · obtain rfl:=List.length_eq_zero_iff.1 h0
   exact fnd_nil_set1 g t
 intro w x hT hx
 obtain ⟨b,o,c,rfl,h1,h2,h3,h4⟩:=hx.form (by omega)
 obtain ⟨n,hn⟩:∃ n,n = L.length:=⟨_,rfl⟩
 have hle:=hx.le
 rw [<- hn] at h0 h1 hle ⊢
 have HC:=lH h4
 have HN:=lH hn
 have HT:=lH hT
 have HLT:=lH h3
 have HW:=lH hW
 clear h4 hx hn hT h3 hW
 go_enter Tryz.func46,Tryz.ntmps46
 go_wp2_with fail
 go_loopw [9] (fun i wr => ∃ k:Nat,k <= n /\ i = .int .i64 (k:Int) /\ Hid (∀ q ∈ L.take k,P q = false) /\ Hid (KN g t wr) /\ Hid (Since w wr)) (fun i _ => n - (intOf i).toNat)
 case atStart => exact ⟨0,by omega,rfl,lH (by simp),HT,lH (Since.refl w)⟩
 case round =>
   clear HT
   obtain ⟨k,hk,rfl,HA,HT,HS⟩:=hrel
   by_cases hlt:k < n
   · obtain ⟨⟨y,s⟩,hs⟩:∃ s,L[k]? = some s:=⟨L[k]'(by rw [<- HN.out]; exact hlt),List.getElem?_eq_getElem _⟩
     obtain ⟨m0,m1⟩:=HC.out k _ hs
     replace m0:wr.cell? ⟨b,o + k * 2,none⟩ = some (.int .i64 y):=(Below.cell HS.out (p:=⟨b,o + k * 2,none⟩) HLT.out).trans m0
     replace m1:wr.cell? ⟨b,o + k * 2 + 1,none⟩ = some (.string s):=(Below.cell HS.out (p:=⟨b,o + k * 2 + 1,none⟩) HLT.out).trans m1
     have i1:(0:Int) <= (k:Int):=by omega
     have i2:(k:Int) < (n:Int):=by omega
     have HT2:=lH (Kp.keep HT.out ((Since.refl wr).alloc (.cells #[.int .i64 y,.string s] 39)))
     have HS2:=lH (HS.out.alloc (.cells #[.int .i64 y,.string s] 39))
     have c1:=HW.out (y,s)
     cases hz:P (y,s)
     · rw [hz] at c1
       obtain ⟨g1,g2⟩:=List.getElem?_eq_some_iff.1 hs
       have HA2:=lH (show ∀ q ∈ L.take (k + 1),P q = false by
         rw [List.take_succ_eq_append_getElem g1,g2]
         intro q hq
         rw [List.mem_append,List.mem_singleton] at hq
         rcases hq with hq | rfl
         · exact HA.out q hq
         · exact hz)
       clear hs hz g1 g2 HT HS
       go_wp2_with fail
       refine c1.calls0 HT2.out ?_
       intro wy hy
       have HT3:=lH (Kp.keep HT2.out hy)
       have HS3:=lH (HS2.out.step hy)
       clear hy m0 m1
       go_wp2_with fail
       go_roundw
       case rel => exact ⟨k + 1,by omega,by go_num,HA2,HT3,HS3⟩
       case measure => simp [intOf]; omega
     · rw [hz] at c1
       have HG:=lH (idx_at hs HA.out hz)
       clear hs hz HT HS
       go_wp2_with fail
       refine c1.calls0 HT2.out ?_
       intro wy hy
       have HS3:=lH (HS2.out.step hy)
       clear hy m0 m1
       go_wp2_with fail
       go_ret
       exact ⟨by rw [HG.out] <;> rfl,HS3.out⟩
   · obtain rfl:n = k:=by omega
     have HG:=lH (show L.findIdx P = n by
       have h9:=HA.out
       rw [HN.out,List.take_length] at h9
       rw [HN.out]; exact List.findIdx_eq_length_of_false h9)
     go_wp2_with fail
     go_ret
     exact ⟨by rw [HG.out] <;> rfl,HS.out⟩
theorem fnd_nil_set2 (g:Nat) (t:Int):RdG 48 g t [] 0:=by
 intro w x hT hx
 have HS:=lH (Since.refl w)
 obtain ⟨A,c,rfl,_⟩:=hx.empty rfl
 clear hx hT
 go_enter Tryz.func46,Tryz.ntmps46
 go_wp2_with fail
 go_loop [9] (fun i => i = .int .i64 0) (fun i => 0 - (intOf i).toNat)
 case atStart => rfl
 case round =>
   subst hrel
   go_wp2_with fail
   go_ret
   exact ⟨rfl,HS.out⟩
set_option maxHeartbeats 4000000 in
theorem fnd_set2 (g:Nat) (t:Int) (P:A2 -> Bool) (hW:Wan 48 g t P) (L:List A2):RdG 48 g t L (L.findIdx P):=by
 by_cases h0:L.length = 0
 · obtain rfl:=List.length_eq_zero_iff.1 h0
   exact fnd_nil_set2 g t
 intro w x hT hx
 obtain ⟨b,o,c,rfl,h1,h2,h3,h4⟩:=hx.form (by omega)
 obtain ⟨n,hn⟩:∃ n,n = L.length:=⟨_,rfl⟩
 have hle:=hx.le
 rw [<- hn] at h0 h1 hle ⊢
 have HC:=lH h4
 have HN:=lH hn
 have HT:=lH hT
 have HLT:=lH h3
 have HW:=lH hW
 clear h4 hx hn hT h3 hW
 go_enter Tryz.func46,Tryz.ntmps46
 go_wp2_with fail
 go_loopw [9] (fun i wr => ∃ k:Nat,k <= n /\ i = .int .i64 (k:Int) /\ Hid (∀ q ∈ L.take k,P q = false) /\ Hid (KN g t wr) /\ Hid (Since w wr)) (fun i _ => n - (intOf i).toNat)
 case atStart => exact ⟨0,by omega,rfl,lH (by simp),HT,lH (Since.refl w)⟩
 case round =>
   clear HT
   obtain ⟨k,hk,rfl,HA,HT,HS⟩:=hrel
   by_cases hlt:k < n
   · obtain ⟨⟨y,s⟩,hs⟩:∃ s,L[k]? = some s:=⟨L[k]'(by rw [<- HN.out]; exact hlt),List.getElem?_eq_getElem _⟩
     obtain ⟨m0,m1⟩:=HC.out k _ hs
     replace m0:wr.cell? ⟨b,o + k * 2,none⟩ = some (.int .i64 y):=(Below.cell HS.out (p:=⟨b,o + k * 2,none⟩) HLT.out).trans m0
     replace m1:wr.cell? ⟨b,o + k * 2 + 1,none⟩ = some (.string s):=(Below.cell HS.out (p:=⟨b,o + k * 2 + 1,none⟩) HLT.out).trans m1
     have i1:(0:Int) <= (k:Int):=by omega
     have i2:(k:Int) < (n:Int):=by omega
     have HT2:=lH (Kp.keep HT.out ((Since.refl wr).alloc (.cells #[.int .i64 y,.string s] 39)))
     have HS2:=lH (HS.out.alloc (.cells #[.int .i64 y,.string s] 39))
     have c1:=HW.out (y,s)
     cases hz:P (y,s)
     · rw [hz] at c1
       obtain ⟨g1,g2⟩:=List.getElem?_eq_some_iff.1 hs
       have HA2:=lH (show ∀ q ∈ L.take (k + 1),P q = false by
         rw [List.take_succ_eq_append_getElem g1,g2]
         intro q hq
         rw [List.mem_append,List.mem_singleton] at hq
         rcases hq with hq | rfl
         · exact HA.out q hq
         · exact hz)
       clear hs hz g1 g2 HT HS
       go_wp2_with fail
       refine c1.calls0 HT2.out ?_
       intro wy hy
       have HT3:=lH (Kp.keep HT2.out hy)
       have HS3:=lH (HS2.out.step hy)
       clear hy m0 m1
       go_wp2_with fail
       go_roundw
       case rel => exact ⟨k + 1,by omega,by go_num,HA2,HT3,HS3⟩
       case measure => simp [intOf]; omega
     · rw [hz] at c1
       have HG:=lH (idx_at hs HA.out hz)
       clear hs hz HT HS
       go_wp2_with fail
       refine c1.calls0 HT2.out ?_
       intro wy hy
       have HS3:=lH (HS2.out.step hy)
       clear hy m0 m1
       go_wp2_with fail
       go_ret
       exact ⟨by rw [HG.out] <;> rfl,HS3.out⟩
   · obtain rfl:n = k:=by omega
     have HG:=lH (show L.findIdx P = n by
       have h9:=HA.out
       rw [HN.out,List.take_length] at h9
       rw [HN.out]; exact List.findIdx_eq_length_of_false h9)
     go_wp2_with fail
     go_ret
     exact ⟨by rw [HG.out] <;> rfl,HS.out⟩
end Atf
namespace Atf
open Att
def getP (L:List A2) (t:Int):Option A2:=L.find? (fun p => decide (p.1 = t))
def getS (L:List A2) (t:Int):ByteArray:=match getP L t with | some p => p.2 | none => ⟨#[]⟩
def getB (L:List A2) (t:Int):Bool:=(getP L t).isSome
def getV (L:List A2) (t:Int):Value:=.tuple #[.string (getS L t),.bool (getB L t)]
theorem rget_nil (t:Int):RdA 55 [] (fun x => #[x,.int .i64 t]) (getV [] t):=by
 intro w x hx
 have HS:=lH (Since.refl w)
 obtain ⟨A,c,rfl,_⟩:=hx.empty rfl
 clear hx
 go_enter Tryz.func55,Tryz.ntmps55
 go_wp2_with fail
 go_loop [6] (fun i => i = .int .i64 0) (fun i => 0 - (intOf i).toNat)
 case atStart => rfl
 case round =>
   subst hrel
   go_wp2_with fail
   go_ret2
   exact ⟨rfl,HS.out⟩
theorem find_at {L:List A2} {t:Int} {k:Nat} {p:A2} (h:L[k]? = some p) (hn:∀ q ∈ L.take k,q.1 ≠ t) (hp:p.1 = t):getP L t = some p:=by
 obtain ⟨g1,g2⟩:=List.getElem?_eq_some_iff.1 h
 have e:L = L.take k ++ (p :: L.drop (k + 1)):=by
   rw [<- g2,List.getElem_cons_drop,List.take_append_drop]
 unfold getP
 rw [e,List.find?_append]
 have h0:(L.take k).find? (fun p => decide (p.1 = t)) = none:=List.find?_eq_none.2 (fun q hq => by simpa using hn q hq)
 rw [h0]
 simp [hp]
theorem find_none {L:List A2} {t:Int} (hn:∀ q ∈ L,q.1 ≠ t):getP L t = none:=List.find?_eq_none.2 (fun q hq => by simpa using hn q hq)
set_option maxHeartbeats 4000000 in
theorem rget_rd (L:List A2) (t:Int):RdA 55 L (fun x => #[x,.int .i64 t]) (getV L t):=by
 by_cases h0:L.length = 0
 · obtain rfl:=List.length_eq_zero_iff.1 h0
   exact rget_nil t
 intro w x hx
 obtain ⟨b,o,c,rfl,h1,h2,h3,h4⟩:=hx.form (by omega)
 obtain ⟨n,hn⟩:∃ n,n = L.length:=⟨_,rfl⟩
 have hle:=hx.le
 rw [<- hn] at h0 h1 hle ⊢
 have HS:=lH (Since.refl w)
 have HC:=lH h4
 have HN:=lH hn
 clear h4 hx hn
 go_enter Tryz.func55,Tryz.ntmps55
 go_wp2_with fail
 go_loop [6] (fun i => ∃ k:Nat,k <= n /\ i = .int .i64 (k:Int) /\ Hid (∀ q ∈ L.take k,q.1 ≠ t)) (fun i => n - (intOf i).toNat)
 case atStart => exact ⟨0,by omega,rfl,lH (by simp)⟩
 case round =>
   obtain ⟨k,hk,rfl,HA⟩:=hrel
   by_cases hlt:k < n
   · obtain ⟨⟨y,s⟩,hs⟩:∃ s,L[k]? = some s:=⟨L[k]'(by rw [<- HN.out]; exact hlt),List.getElem?_eq_getElem _⟩
     obtain ⟨m0,m1⟩:=HC.out k _ hs
     replace m0:w.cell? ⟨b,o + k * 2,none⟩ = some (.int .i64 y):=m0
     replace m1:w.cell? ⟨b,o + k * 2 + 1,none⟩ = some (.string s):=m1
     have i1:(0:Int) <= (k:Int):=by omega
     have i2:(k:Int) < (n:Int):=by omega
     by_cases hz:y = t
     · have t2:(y == t) = true:=beq_iff_eq.2 hz
       have HG:=lH (find_at hs HA.out hz)
       clear hs hz
       go_wp2_with fail
       go_ret2
       exact ⟨by unfold getV getS getB; rw [HG.out]; rfl,HS.out⟩
     · have t2:(y == t) = false:=beq_eq_false_iff_ne.2 hz
       obtain ⟨g1,g2⟩:=List.getElem?_eq_some_iff.1 hs
       have HA2:=lH (show ∀ q ∈ L.take (k + 1),q.1 ≠ t by
         rw [List.take_succ_eq_append_getElem g1,g2]
         intro q hq
         rw [List.mem_append,List.mem_singleton] at hq
         rcases hq with hq | rfl
         · exact HA.out q hq
         · exact hz)
       clear hs hz g1 g2
       go_wp2_with fail
       go_round
       case rel => exact ⟨k + 1,by omega,by go_num,HA2⟩
       case measure => simp [intOf]; omega
   · obtain rfl:n = k:=by omega
     have HG:=lH (find_none (L:=L) (t:=t) (by have h9:=HA.out; rw [HN.out,List.take_length] at h9; exact h9))
     go_wp2_with fail
     go_ret2
     exact ⟨by unfold getV getS getB; rw [HG.out]; rfl,HS.out⟩
def idxN (L:List A2) (t:Int):Nat:=L.findIdx (fun p => p.1 == t)
theorem getP_idx (L:List A2) (t:Int) (h:idxN L t < L.length):∃ p,L[idxN L t]? = some p /\ getP L t = some p:=by
 refine ⟨L[idxN L t],List.getElem?_eq_getElem h, ?_⟩
 unfold getP idxN at *
 exact List.find?_eq_some_iff_getElem.2 ⟨by have:=List.findIdx_getElem (w:=h); simpa using this,_,h,rfl,fun j hj => by simpa using List.not_of_lt_findIdx hj⟩
theorem getP_no (L:List A2) (t:Int) (h:¬ idxN L t < L.length):getP L t = none:=by
 unfold getP idxN at *
 refine List.find?_eq_none.2 fun q hq hd => h ?_
 exact List.findIdx_lt_length_of_exists ⟨q,hq,hd⟩
end Atf
end Go.Proofs.YtfnmakelbijmkaaGreatDoor
