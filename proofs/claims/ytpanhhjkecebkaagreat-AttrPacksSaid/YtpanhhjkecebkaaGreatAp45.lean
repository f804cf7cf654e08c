import Derived.Test.YtpanhhjkecebkaaGreatAp31
import Derived.Test.YtpanhhjkecebkaaGreatAp43
set_option maxRecDepth 100000
namespace Go.Proofs.YtpanhhjkecebkaaGreat
namespace Atm
open Tlv Tree Strs Att Setof
theorem len_prim (c t:Nat) (d:ByteArray) (nx:F):(F.prim c t d nx).enc.length <= 7 + d.size + nx.enc.length:=by
 have h1:=(Head.encL_len c t false d.size).1
 have hd:d.data.toList.length = d.size:=rfl
 show (Head.encL c t false d.size ++ d.data.toList ++ nx.enc).length <= _
 rw [List.length_append,List.length_append]
 omega
theorem len_cons (c t:Nat) (ks nx:F):(F.cons c t ks nx).enc.length <= 7 + ks.enc.length + nx.enc.length:=by
 have h1:=(Head.encL_len c t true ks.enc.length).1
 show (Head.encL c t true ks.enc.length ++ ks.enc ++ nx.enc).length <= _
 rw [List.length_append,List.length_append]
 omega
theorem nm_len (t:Int) (h:0 <= t /\ t <= 2147483647):(nmA t).size <= 200:=by
 unfold nmA
 rw [size_bs,<- Oid.encU_all (arcsA t) (arcs_ok t h) 7 rfl]
 exact Oid.encU_len _ (arcs_ok t h) 7
theorem att_len (p:A2) (h:0 <= p.1 /\ p.1 <= 2147483647):(attF p).enc.length <= 228 + p.2.size:=by
 have h0:=nm_len p.1 h
 have h1:=len_cons 0 16 (.prim 0 6 (nmA p.1) (.cons 0 17 (.prim 0 4 p.2 .nil) .nil)) .nil
 have h2:=len_prim 0 6 (nmA p.1) (.cons 0 17 (.prim 0 4 p.2 .nil) .nil)
 have h3:=len_cons 0 17 (.prim 0 4 p.2 .nil) .nil
 have h4:=len_prim 0 4 p.2 .nil
 have h5:F.nil.enc.length = 0:=rfl
 unfold attF
 omega
def encA (p:A2):ByteArray:=bs (attF p).enc
theorem ok_num {p:A2} (h:Ok1 p):0 <= p.1 /\ p.1 <= 2147483647:=⟨by have:=h.1; omega,by have:=h.2.1; omega⟩
theorem top_att (p:A2) (h:Ok1 p):top rightB (encA p) = .ok (attF p) :=
 top_enc (att_is p (ok_num h)) (by have:=att_len p (ok_num h); have:=h.2.2; omega)
theorem enc_inj {p q:A2} (hp:Ok1 p) (hq:Ok1 q) (h:encA p = encA q):p = q:=by
 have h1:=top_att p hp
 rw [h,top_att q hq] at h1
 exact (att_inj (ok_num hq) (ok_num hp) (Except.ok.inj h1)).symm
open Classical in
noncomputable def decV (s:ByteArray):A2 × Int:=if h:∃ p,Ok1 p /\ encA p = s then (Classical.choose h,0) else ((0,⟨#[]⟩),5)
theorem decV_yes (p:A2) (h:Ok1 p):decV (encA p) = (p,0):=by
 have h1:∃ q,Ok1 q /\ encA q = encA p:=⟨p,h,rfl⟩
 unfold decV
 rw [dif_pos h1]
 have h2:=Classical.choose_spec h1
 rw [enc_inj h2.1 h h2.2]
theorem decV_no (s:ByteArray) (h:¬ ∃ p,Ok1 p /\ encA p = s):decV s = ((0,⟨#[]⟩),5):=by
 unfold decV
 rw [dif_neg h]
theorem decV_zero (s:ByteArray) (h:(decV s).2 = 0):Ok1 (decV s).1 /\ encA (decV s).1 = s:=by
 by_cases h1:∃ p,Ok1 p /\ encA p = s
 · obtain ⟨p,h2,rfl⟩:=h1
   rw [decV_yes p h2]
   exact ⟨h2,rfl⟩
 · rw [decV_no s h1] at h
   exact absurd h (by decide)
theorem dl_inj {a b:ByteArray} (h:dl a = dl b):a = b:=ba_ext h
theorem up_rises {l:List ByteArray} (h:(l.map dl).Pairwise up) (hn:l.Nodup):risesB l = true:=by
 have key:∀ k,k <= l.length -> riN l k = true:=by
   intro k
   induction k with
   | zero => intro _; rfl
   | succ k ih =>
     intro hk
     cases k with
     | zero => rfl
     | succ k =>
       have h1:l[k]? = some (l[k]'(by omega)):=List.getElem?_eq_getElem _
       have h2:l[k+1]? = some (l[k+1]'(by omega)):=List.getElem?_eq_getElem _
       rw [riN_step l k _ _ h1 h2,ih (by omega),Bool.true_and]
       rw [List.pairwise_map] at h
       have h3:=List.pairwise_iff_getElem.1 h k (k + 1) (by omega) (by omega) (by omega)
       have h4:=List.pairwise_iff_getElem.1 hn k (k + 1) (by omega) (by omega) (by omega)
       cases h5:ltB (l[k]'(by omega)).data.toList (l[k+1]'(by omega)).data.toList with
       | true => rfl
       | false => exact absurd (dl_inj (ltB_tri _ _ h5 h3)) h4
 exact key _ (Nat.le_refl _)
def catB (l:List ByteArray):ByteArray:=bs (l.map dl).flatten
def packV (L:List A2):ByteArray × Int:=if attOk L then (catB (srtB (L.map encA)),0) else (⟨#[]⟩,11)
def pcsA (s:ByteArray):List ByteArray:=(pcsV s).2.2
noncomputable def decL (s:ByteArray):List A2:=(pcsA s).map fun x => (decV x).1
noncomputable def unpV (s:ByteArray):List A2 × Int :=
 if (pcsV s).1 ≠ 0 ∨ risesB (pcsA s) = false ∨ (pcsA s).any (fun x => decide ((decV x).2 ≠ 0)) = true then ([],5) else
 if unpB (decL s) = true then (fldA (decL s),0) else ([],11)
theorem map_dec (l:List A2) (h:∀ p ∈ l,Ok1 p):(l.map encA).map (fun x => (decV x).1) = l:=by
 rw [List.map_map]
 conv => rhs; rw [<- List.map_id l]
 exact List.map_congr_left fun p hp => by show (decV (encA p)).1 = p; rw [decV_yes p (h p hp)]
theorem map_enc (l:List ByteArray) (h:∀ x ∈ l,(decV x).2 = 0):(l.map fun x => (decV x).1).map encA = l:=by
 rw [List.map_map]
 conv => rhs; rw [<- List.map_id l]
 exact List.map_congr_left fun x hx => (decV_zero x (h x hx)).2
theorem cat_len (l:List ByteArray) (k:Nat) (h:∀ x ∈ l,x.size <= k):(l.map dl).flatten.length <= k * l.length:=by
 induction l with
 | nil => exact Nat.zero_le _
 | cons x l ih =>
   rw [List.map_cons,List.flatten_cons,List.length_append,List.length_cons,Nat.mul_succ]
   have h1:=ih fun y hy => h y (List.mem_cons_of_mem _ hy)
   have h2:=h x (List.mem_cons_self ..)
   have h3:(dl x).length = x.size:=rfl
   omega
theorem enc_size (p:A2) (h:Ok1 p):(encA p).size <= 483:=by
 have:=att_len p (ok_num h)
 have:=h.2.2
 unfold encA
 rw [size_bs]
 omega
theorem nodup_enc (l:List A2) (h:∀ p ∈ l,Ok1 p) (hn:l.Nodup):(l.map encA).Nodup:=by
 unfold List.Nodup at hn ⊢
 rw [List.pairwise_map]
 exact List.Pairwise.imp_of_mem (fun {a b} ha hb hab e => hab (enc_inj (h a ha) (h b hb) e)) hn
theorem up_nodup (l:List A2) (h:Up l):l.Nodup:=List.Pairwise.imp (fun {a b} hx e => by rw [e] at hx; omega) h
theorem unp_pack (L:List A2) (h:attOk L = true):unpV (packV L).1 = (L,0):=by
 obtain ⟨h1,h2,h3⟩:=(attOk_iff L).1 h
 unfold packV
 rw [if_pos h]
 obtain ⟨S,hS⟩:∃ S,S = srtB (L.map encA):=⟨_,rfl⟩
 rw [<- hS]
 have hp:S.Perm (L.map encA):=by rw [hS]; exact srtB_perm _
 have hm:∀ x ∈ S,∃ p,Ok1 p /\ encA p = x:=fun x hx => by
   obtain ⟨p,hp1,hp2⟩:=List.mem_map.1 (hp.mem_iff.1 hx)
   exact ⟨p,h3 p hp1,hp2⟩
 have hz:∀ x ∈ S,(decV x).2 = 0:=fun x hx => by
   obtain ⟨p,h4,rfl⟩:=hm x hx
   rw [decV_yes p h4]
 obtain ⟨P,hP⟩:∃ P,P = S.map fun x => (decV x).1:=⟨_,rfl⟩
 have hPS:P.map encA = S:=by rw [hP]; exact map_enc S hz
 have hPo:∀ p ∈ P,Ok1 p:=fun p hp1 => by
   rw [hP] at hp1
   obtain ⟨x,hx,rfl⟩:=List.mem_map.1 hp1
   exact (decV_zero x (hz x hx)).1
 have hPL:P.Perm L:=by
   rw [hP]
   have h9:=hp.map fun x => (decV x).1
   rw [map_dec L h3] at h9
   exact h9
 have hlen:S.length <= 32:=by rw [hp.length_eq,List.length_map]; exact h1
 have hcat:(S.map dl).flatten = ((P.map attF).map F.enc).flatten:=by
   rw [<- hPS,List.map_map,List.map_map]
   rfl
 have hsz:((P.map attF).map F.enc).flatten.length <= 65535:=by
   rw [<- hcat]
   have:=cat_len S 483 fun x hx => by
     obtain ⟨p,h4,rfl⟩:=hm x hx
     exact enc_size p h4
   omega
 have hpc:pcsV (catB S) = (0,0,S):=by
   unfold catB
   rw [hcat,pcs_all (P.map attF) (fun g hg => by
     obtain ⟨p,hp1,rfl⟩:=List.mem_map.1 hg
     have h5:=att_is p (ok_num (hPo p hp1))
     have h6:=att_len p (ok_num (hPo p hp1))
     have h7:=(hPo p hp1).2.2
     exact ⟨h5.one,h5.ok,by omega⟩) hsz,List.map_map]
   rw [<- hPS]
   rfl
 have hri:risesB S = true:=by
   refine up_rises (by rw [hS]; exact srtB_up _) ((hp.nodup_iff).2 (nodup_enc L h3 (up_nodup L h2)))
 have hdl:decL (catB S) = P:=by
   unfold decL pcsA
   rw [hpc,hP]
 unfold unpV
 rw [if_neg (by
   rintro (h4 | h4 | h4)
   · rw [hpc] at h4; exact h4 rfl
   · unfold pcsA at h4; rw [hpc] at h4; rw [hri] at h4; cases h4
   · unfold pcsA at h4
     rw [hpc,List.any_eq_true] at h4
     obtain ⟨x,hx,h5⟩:=h4
     exact (of_decide_eq_true h5) (hz x hx)),hdl,if_pos (by rw [<- unp_ok L P hPL.symm (List.Pairwise.imp (fun h => Int.le_of_lt h) h2) hPo]; exact h),up_fld L P hPL.symm h2]
end Atm
end Go.Proofs.YtpanhhjkecebkaaGreat
namespace Go.Proofs.YtpanhhjkecebkaaGreat
open Go.RowKit
namespace Atf
open Att Rw Tlv Tree Strs Atm
theorem lit_own (W:World) (xs:List Value) (n:Nat) (hn:xs.length = n) (hm:n <= maxLen) (C:Array Value) (hC:C = xs.toArray) (t:TypeId):(W.alloc (.cells C t)).ownsRow W.heap.size t 1 (.slice (some ⟨W.heap.size,0,none⟩) n n) n xs:=by
 subst hC
 refine ⟨by rw [hn,Nat.mul_one],.inr ⟨W.heap.size,n,xs.toArray,rfl,Nat.le_refl _,heap_alloc_new W _,Nat.le_refl _,hm, ?_, ?_⟩⟩
 · show xs.length = n * 1; rw [hn,Nat.mul_one]
 · show xs.take (n * 1) = xs; rw [Nat.mul_one,<- hn,List.take_length]
def u8:List Value:=Atm.under.map (Value.int .i64)
theorem under_0 (w:World):Calls Tryz.prog 51 #[.slice none 0 0] w fun e w' => ∃ v,e = .returned v /\ IntsS w' v Atm.under /\ Since w w':=by
 go_enter Tryz.func51,Tryz.ntmps51
 go_wp2_with fail
 go_ret
 exact ⟨_,rfl,SlR.own (lit_own w u8 8 rfl (by decide) _ rfl 3),(Since.refl w).alloc _⟩
set_option maxHeartbeats 4000000 in
theorem under_1 (t:Int) (w:World) (b:Nat) (hb:w.cell? ⟨b,0,none⟩ = some (.int .i64 t)):Calls Tryz.prog 51 #[.slice (some ⟨b,0,none⟩) 1 1] w fun e w' => ∃ v,e = .returned v /\ IntsS w' v (Atm.arcsA t) /\ Since w w':=by
 have hlt:=block_lt_of_cell hb
 have HR:=lH (show Rw.Rows (w.alloc (.cells #[.int .i64 1,.int .i64 3,.int .i64 6,.int .i64 1,.int .i64 4,.int .i64 1,.int .i64 99999,.int .i64 7] 3)) w.heap.size (([]:List Row) ++ ⟨3,1,.slice (some ⟨w.heap.size,0,none⟩) 8 8,8,u8⟩ :: []) from ⟨fun r hr => by
   rw [List.mem_singleton.1 hr]
   exact lit_own w u8 8 rfl (by decide) _ rfl 3,by simp⟩)
 have HB:=lH (show (w.alloc (.cells #[.int .i64 1,.int .i64 3,.int .i64 6,.int .i64 1,.int .i64 4,.int .i64 1,.int .i64 99999,.int .i64 7] 3)).cell? ⟨b,0,none⟩ = some (.int .i64 t) from (Below.cell ((Since.refl w).alloc _) (p:=⟨b,0,none⟩) hlt).trans hb)
 have HS:=lH ((Since.refl w).alloc (.cells #[.int .i64 1,.int .i64 3,.int .i64 6,.int .i64 1,.int .i64 4,.int .i64 1,.int .i64 99999,.int .i64 7] 3))
 clear hb hlt
 go_enter Tryz.func51,Tryz.ntmps51
 go_wp2_with (at_builtin; refine app_from elemI rfl _ _ (by rfl) w _ [] [] _ 8 u8 (by rfl) HR.out HS.out ⟨b,0,none⟩ [.int .i64 t] 1 1 (by rfl) rfl (fun j u hu => by
   have hj:j = 0:=by have:=(List.getElem?_eq_some_iff.1 hu).1; simpa using this
   subst hj
   cases hu
   exact HB.out) (fun u hu => by rw [List.mem_singleton.1 hu]; rfl) (by decide) (by decide) ?_; intro V2 w2 HQ2 HT2)
 obtain ⟨A2,q2,rfl⟩:∃ A c,V2 = .slice A 9 c:=own_any HQ2.get
 have hI:IntsS w2 (.slice A2 9 q2) (Atm.arcsA t):=SlR.own HQ2.get
 have HI:=lH hI
 have HS2:=lH HT2
 clear HQ2 HT2 hI
 go_wp2_with fail
 go_ret
 exact ⟨_,rfl,HI.out,HS2.out⟩
theorem enc_bad (t:Int) (v:ByteArray) (E:Int) (hE:(E != 0) = true) (c1:RdA 15 [(t,v)] (fun x => #[x]) (.int .i64 E)):Mak 22 #[.agg #[.int .i64 t,.string v]] (.tuple #[.string ⟨#[]⟩,.int .i64 E]):=by
 intro w
 have m0:(w.alloc (.cells #[.int .i64 t,.string v] 35)).cell? ⟨w.heap.size,0,none⟩ = some (.int .i64 t):=(World.cell?_alloc_new _ _ _ _).trans rfl
 have m1:(w.alloc (.cells #[.int .i64 t,.string v] 35)).cell? ⟨w.heap.size,1,none⟩ = some (.string v):=(World.cell?_alloc_new _ _ _ _).trans rfl
 have HS:=lH ((Since.refl w).alloc (.cells #[.int .i64 t,.string v] 35))
 have HM:=lH (And.intro m0 m1)
 have e9:(w.alloc (.cells #[.int .i64 t,.string v] 35)).heap.size = w.heap.size + 1:=by simp
 have hl9:=SlR.lit (w.alloc (.cells #[.int .i64 t,.string v] 35)) 2 1 (ac (t,v)) rfl (by decide) #[.int .i64 t,.string v] rfl 35
 rw [e9] at hl9
 have HL:=lH hl9
 clear hl9 e9
 have hb:=(Since.refl (w.alloc (.cells #[.int .i64 t,.string v] 35))).alloc (.cells #[.int .i64 t,.string v] 35)
 go_enter Tryz.func22,Tryz.ntmps22
 go_wp2_with fail
 refine (c1 _ _ (show AttsS _ _ [(t,v)] from HL.out)).mono ?_
 rintro _ w1 ⟨rfl,h1⟩
 have h2:Since (w.alloc (.cells #[.int .i64 t,.string v] 35)) w1:=hb.step h1
 have hlt:w.heap.size < (w.alloc (.cells #[.int .i64 t,.string v] 35)).heap.size:=by simp
 have n0:=(Below.cell h2 (p:=⟨w.heap.size,0,none⟩) hlt).trans HM.out.1
 have n1:=(Below.cell h2 (p:=⟨w.heap.size,1,none⟩) hlt).trans HM.out.2
 replace HS:=lH (HS.out.step h2)
 clear m0 m1 h1 h2 hb HL HM
 clear n0 n1
 go_wp2_with fail
 go_ret2
 exact ⟨rfl,HS.out⟩
def nmF (nm v:ByteArray):F:=.cons 0 16 (.prim 0 6 nm (.cons 0 17 (.prim 0 4 v .nil) .nil)) .nil
set_option maxHeartbeats 4000000 in
theorem enc_good (t:Int) (v nm X:ByteArray) (qn:Bool) (c1:RdA 15 [(t,v)] (fun x => #[x]) (.int .i64 0)) (c2:∀ w x,IntsS w x (Atm.arcsA t) -> Calls Tryz.prog 50 #[x] w fun e w' => e = .returned (.tuple #[.string nm,.bool qn]) /\ Since w w') (c5:RdT 53 ((nmF nm v).flat 0) (fun x => #[x]) (.tuple #[.string X,.int .i64 0])):Mak 22 #[.agg #[.int .i64 t,.string v]] (.tuple #[.string X,.int .i64 0]):=by
 obtain ⟨E,hE⟩:∃ E:Int,E = 0:=⟨_,rfl⟩
 rw [<- hE] at c1
 have hE2:(E != 0) = false:=by rw [hE]; rfl
 clear hE
 intro w
 have m0:(w.alloc (.cells #[.int .i64 t,.string v] 35)).cell? ⟨w.heap.size,0,none⟩ = some (.int .i64 t):=(World.cell?_alloc_new _ _ _ _).trans rfl
 have m1:(w.alloc (.cells #[.int .i64 t,.string v] 35)).cell? ⟨w.heap.size,1,none⟩ = some (.string v):=(World.cell?_alloc_new _ _ _ _).trans rfl
 have HS:=lH ((Since.refl w).alloc (.cells #[.int .i64 t,.string v] 35))
 have HM:=lH (And.intro m0 m1)
 have e9:(w.alloc (.cells #[.int .i64 t,.string v] 35)).heap.size = w.heap.size + 1:=by simp
 have hl9:=SlR.lit (w.alloc (.cells #[.int .i64 t,.string v] 35)) 2 1 (ac (t,v)) rfl (by decide) #[.int .i64 t,.string v] rfl 35
 rw [e9] at hl9
 have HL:=lH hl9
 clear hl9 e9
 have hb:=(Since.refl (w.alloc (.cells #[.int .i64 t,.string v] 35))).alloc (.cells #[.int .i64 t,.string v] 35)
 go_enter Tryz.func22,Tryz.ntmps22
 go_wp2_with fail
 refine (c1 _ _ (show AttsS _ _ [(t,v)] from HL.out)).mono ?_
 rintro _ w1 ⟨rfl,h1⟩
 have h2:Since (w.alloc (.cells #[.int .i64 t,.string v] 35)) w1:=hb.step h1
 have hlt:w.heap.size < (w.alloc (.cells #[.int .i64 t,.string v] 35)).heap.size:=by simp
 have n0:=(Below.cell h2 (p:=⟨w.heap.size,0,none⟩) hlt).trans HM.out.1
 have n1:=(Below.cell h2 (p:=⟨w.heap.size,1,none⟩) hlt).trans HM.out.2
 replace HS:=lH (HS.out.step h2)
 clear m0 m1 h1 h2 hb HL HM
 have l0:(w1.alloc (.cells #[.int .i64 t] 3)).cell? ⟨w1.heap.size,0,none⟩ = some (.int .i64 t):=(World.cell?_alloc_new _ _ _ _).trans rfl
 replace HS:=lH (HS.out.step ((Since.refl w1).alloc (.cells #[.int .i64 t] 3)))
 have n1':(w1.alloc (.cells #[.int .i64 t] 3)).cell? ⟨w.heap.size,1,none⟩ = some (.string v):=(Below.cell ((Since.refl w1).alloc (.cells #[.int .i64 t] 3)) (p:=⟨w.heap.size,1,none⟩) (block_lt_of_cell n1)).trans n1
 clear hlt
 go_wp2_with fail
 refine (under_1 t _ _ l0).mono ?_
 rintro _ w2 ⟨v2,rfl,hv2,h2⟩
 have n2:=(Below.cell h2 (p:=⟨w.heap.size,1,none⟩) (block_lt_of_cell n1')).trans n1'
 replace HS:=lH (HS.out.step h2)
 obtain ⟨A2,q2,e2,-,-⟩:=hv2.slice
 replace e2:v2 = .slice A2 9 q2:=e2
 subst e2
 have HV:=lH hv2
 clear h2 hv2 n1 n0 n1' l0
 go_wp2_with fail
 refine (c2 _ _ HV.out).mono ?_
 rintro _ w3 ⟨rfl,h3⟩
 have n3:=(Below.cell h3 (p:=⟨w.heap.size,1,none⟩) (block_lt_of_cell n2)).trans n2
 replace HS:=lH (HS.out.step h3)
 clear h3 HV n2
 go_wp2_with fail
 refine (leaf_mk 0 4 v _).mono ?_
 rintro _ w4 ⟨v4,rfl,t4,h4⟩
 obtain ⟨A4,q4,e4,-,-⟩:=t4.slice
 replace e4:v4 = .slice A4 1 q4:=e4
 subst e4
 replace HS:=lH (HS.out.step h4)
 have T4:=lH t4
 clear h4 t4 n3
 go_wp2_with fail
 refine (leaf_mk 0 6 nm _).mono ?_
 rintro _ w6 ⟨v6,rfl,t6,h6⟩
 obtain ⟨A6,q6,e6,-,-⟩:=t6.slice
 replace e6:v6 = .slice A6 1 q6:=e6
 subst e6
 replace HS:=lH (HS.out.step h6)
 replace T4:=lH (T4.out.since h6)
 have hb:=(Since.refl w6).alloc (.cells #[.slice A4 1 q4] 75)
 have T5:=lH (trees_lit w6 [.slice A4 1 q4] ([F.prim 0 4 v .nil].map (fun g => g.flat 0)) rfl (by show 1 <= 1000; omega) (fun j x N hx hN => by
   have hj:j = 0:=by have:=(List.getElem?_eq_some_iff.1 hx).1; simpa using this
   subst hj
   cases hx
   cases hN
   exact T4.out) #[.slice A4 1 q4] rfl 75)
 replace HS:=lH (HS.out.step hb)
 have T6:=lH (t6.since hb)
 clear h6 t6 hb T4
 go_wp2_with fail
 refine (of_g 0 17 [F.prim 0 4 v .nil] (fun g hg => by rw [List.mem_singleton.1 hg]; exact rfl) (by show 1 <= 1000; omega) (by show 1 + 0 <= 1000; omega) _ _ T5.out).mono ?_
 rintro _ w7 ⟨v7,rfl,t7,h7⟩
 obtain ⟨A7,q7,e7,-,-⟩:=t7.slice
 replace e7:v7 = .slice A7 2 q7:=e7
 subst e7
 replace HS:=lH (HS.out.step h7)
 replace T6:=lH (T6.out.since h7)
 have hb:=(Since.refl w7).alloc (.cells #[.slice A6 1 q6,.slice A7 2 q7] 75)
 have T8:=lH (trees_lit w7 [.slice A6 1 q6,.slice A7 2 q7] ([F.prim 0 6 nm .nil,F.cons 0 17 (.prim 0 4 v .nil) .nil].map (fun g => g.flat 0)) rfl (by show 2 <= 1000; omega) (fun j x N hx hN => by
   have hj:j < 2:=by have:=(List.getElem?_eq_some_iff.1 hx).1; simpa using this
   match j,hj with
   | 0,_ => cases hx; cases hN; exact T6.out
   | 1,_ => cases hx; cases hN; exact t7) #[.slice A6 1 q6,.slice A7 2 q7] rfl 75)
 replace HS:=lH (HS.out.step hb)
 clear h7 t7 hb T5 T6
 go_wp2_with fail
 refine (of_g 0 16 [F.prim 0 6 nm .nil,F.cons 0 17 (.prim 0 4 v .nil) .nil] (fun g hg => by
   simp only [List.mem_cons,List.not_mem_nil,or_false] at hg
   rcases hg with rfl | rfl <;> exact rfl) (by show 2 <= 1000; omega) (by show 1 + (1 + (1 + 0) + 0) <= 1000; omega) _ _ T8.out).mono ?_
 rintro _ w9 ⟨v9,rfl,t9,h9⟩
 obtain ⟨A9,q9,e9,-,-⟩:=t9.slice
 replace e9:v9 = .slice A9 4 q9:=e9
 subst e9
 replace HS:=lH (HS.out.step h9)
 have T9:=lH t9
 clear h9 t9 T8
 go_wp2_with fail
 refine c5.calls0 T9.out ?_
 intro wa ha
 replace HS:=lH (HS.out.step ha)
 clear ha T9
 go_wp2_with fail
 go_ret2
 exact ⟨rfl,HS.out⟩
theorem small_att (nm v:ByteArray) (h1:nm.size <= 1000) (h2:v.size <= 1000):Small ((nmF nm v).flat 0):=⟨by show 4 <= 100000; omega,fun x hx => by
 have hx':x ∈ [(⟨0,16,true,⟨#[]⟩,[1,2]⟩:Nd),⟨0,6,false,nm,[]⟩,⟨0,17,true,⟨#[]⟩,[3]⟩,⟨0,4,false,v,[]⟩]:=hx
 simp only [List.mem_cons,List.not_mem_nil,or_false] at hx'
 rcases hx' with rfl | rfl | rfl | rfl
 · exact Nat.zero_le _
 · show nm.size <= 100000; omega
 · exact Nat.zero_le _
 · show v.size <= 100000; omega⟩
theorem enc_att (p:Att.A2) (h:Ok1 p):RdT 53 (Atm.attN p) (fun x => #[x]) (.tuple #[.string (encA p),.int .i64 0]):=by
 have hk:=att_is p (ok_num h)
 have hn:=nm_len p.1 (ok_num h)
 have hs:Small (Atm.attN p):=small_att (nmA p.1) p.2 (by omega) (by have:=h.2.2; omega)
 have c4:=rig_rd _ hs
 rw [is_right hk] at c4
 have hl:=att_len p (ok_num h)
 have h3:=h.2.2
 exact enc_yes _ _ _ (wr_of hk) (by omega) hs hk.len (fair_of hk).kids c4
def encW (p:Att.A2):Value:=.tuple #[.string (if attOk [p] then encA p else ⟨#[]⟩),.int .i64 (attE [p])]
theorem encode_mk (p:Att.A2):Mak 22 #[.agg #[.int .i64 p.1,.string p.2]] (encW p):=by
 have c1:=check_rd [p] _ rfl
 unfold encW
 by_cases h:attOk [p] = true
 · have hE:attE [p] = 0:=(attE_zero _).2 h
   rw [hE] at c1 ⊢
   rw [if_pos h]
   have h1:=(ok_one p).1 h
   exact enc_good p.1 p.2 (nmA p.1) _ true c1 (fun w x hx => Oid.encode_yes w x _ hx (Atm.arcs_ok p.1 (ok_num h1)) _ rfl) (enc_att p h1)
 · have hE:attE [p] ≠ 0:=fun h9 => h ((attE_zero _).1 h9)
   rw [if_neg h]
   exact enc_bad p.1 p.2 _ (bne_iff_ne.2 hE) c1
end Atf
namespace Atf
open Att Rw Atm Tlv Tree Strs
def DecT (s:ByteArray) (C P:Int) (N:List Nd):Prop:=∀ w,Calls Tryz.prog 59 #[.string s] w fun e w' => ∃ tv,e = .returned (.tuple #[tv,.agg #[.int .i64 C,.int .i64 P]]) /\ TreeS w' tv N /\ Since w w'
def tg4:List Int:=[16,6,17,4]
theorem a2_info (t:Int) (v:ByteArray):(Tryz.prog.info? 35).map (·.size) = some (#[.int .i64 t,.string v]:Array Value).size:=by kernel_rfl
theorem a2_one (t:Int) (v:ByteArray):(#[.int .i64 t,.string v]:Array Value).all (·.oneCell') = true:=by
 rw [Array.all_eq_true]
 intro k hk
 match k,hk with
 | 0,_ | 1,_ => rfl
def decT (r:Att.A2 × Int):Value:=.tuple #[.agg #[.int .i64 r.1.1,.string r.1.2],.int .i64 r.2]
set_option maxHeartbeats 4000000 in
theorem dec_1 (s:ByteArray) (C P:Int) (N:List Nd) (d1:DecT s C P N) (tq:false = tagB N tg4):Mak 24 #[.string s] (decT ((0,⟨#[]⟩),5)):=by
 intro w
 have HTQ:=lH tq
 clear tq
 have hr:=lH (show HR w w.heap.size #[.int .i64 0,.string ⟨#[]⟩] 35 (w.alloc (.cells #[.int .i64 0,.string ⟨#[]⟩] 35)) from ⟨heap_alloc_new w _⟩)
 have HS:=lH ((Since.refl w).alloc (.cells #[.int .i64 0,.string ⟨#[]⟩] 35))
 go_enter Tryz.func24,Tryz.ntmps24
 go_wp2_with fail
 refine (d1 _).mono ?_
 rintro _ w1 ⟨u1,rfl,hU,h1⟩
 obtain ⟨A1,q1,e1,-,-⟩:=hU.slice
 subst e1
 replace HS:=lH (HS.out.step h1)
 replace hr:=lH (hr.out.step h1)
 have r1:(w1.alloc (.cells #[.int .i64 0,.int .i64 0] 65)).heap[w1.heap.size]? = some (.cells #[.int .i64 0,.int .i64 0] 65 (0,0)):=heap_alloc_new w1 _
 have hb:=lH (hb_row (K:=KT) (C':=#[.int .i64 C,.int .i64 P]) ((Since.refl w1).alloc _) (Nat.le_refl _) trivial r1)
 have y0:=hb.out.cell 0 _ rfl
 replace HS:=lH (HS.out.step hb.out.since)
 replace hr:=lH (hr.out.step hb.out.since)
 have HU:=lH (hU.since hb.out.since)
 obtain ⟨n0,hn0⟩:∃ n,n = N.length:=⟨_,rfl⟩
 rw [<- hn0] at HU ⊢
 have HN0:=lH hn0
 clear hU h1 hn0
 go_wp2_with (refine RwL.at_store (ty:=65) rfl ?_; refine wpList_store_row rfl 65 _ _ rfl w1.heap.size #[.int .i64 C,.int .i64 P] (by rfl) (by rfl) _ _ r1 (f2_info C P) rfl (f2_one C P) ?_; generalize hw2:(w1.alloc (.cells #[.int .i64 0,.int .i64 0] 65)).setRow w1.heap.size #[.int .i64 C,.int .i64 P] = w2 at HS hr HU y0 ⊢; clear hw2 r1 hb)
 have hT4:=tagged_rd N tg4 (by decide) false HTQ.out
 refine (hT4 _ _ _ (HU.out.since ((Since.refl w2).alloc (.cells #[.int .i64 16,.int .i64 6,.int .i64 17,.int .i64 4] 3))) (SlR.lit w2 1 4 (tg4.map (Value.int .i64)) rfl (by decide) #[.int .i64 16,.int .i64 6,.int .i64 17,.int .i64 4] rfl 3)).mono ?_
 rintro _ w3 ⟨rfl,h3⟩
 replace h3:=((Since.refl w2).alloc (.cells #[.int .i64 16,.int .i64 6,.int .i64 17,.int .i64 4] 3)).step h3
 replace HS:=lH (HS.out.step h3)
 replace hr:=lH (hr.out.step h3)
 replace HU:=lH (HU.out.since h3)
 clear h3 hT4 y0
 go_wp2_with (refine RwL.at_store (ty:=35) rfl ?_; refine wpList_store_row rfl 35 _ _ rfl w.heap.size #[.int .i64 0,.string ⟨#[]⟩] (by rfl) (by rfl) _ _ hr.out.row (a2_info 0 ⟨#[]⟩) rfl (a2_one 0 ⟨#[]⟩) ?_)
 exact bodyPost_ret (v:=.tuple #[.agg #[.int .i64 0,.string ⟨#[]⟩],.int .i64 5]) (results_cell_tmp2 Tryz.results24 _ _ _ _ _ _ _ _ rfl rfl (setRow_heap _ _ _ _ _ _ hr.out.row) Tryz.underlying35 rfl (a2_info 0 ⟨#[]⟩)) rfl ⟨rfl,below_setRow HS.out (Nat.le_refl _) _⟩
theorem at_data {W:World} {A:Option Addr} {n c:Nat} {N:List Nd} (h:TreeS W (.slice A n c) N) (k:Nat) (x:Nd) (hx:N[k]? = some x):∃ b o,A = some ⟨b,o,none⟩ /\ n = N.length /\ b < W.heap.size /\ W.cell? ⟨b,o + k * 5 + 3,none⟩ = some (.string x.d):=by
 obtain ⟨b,o,c',hv,h1,h2,h3,h4⟩:=h.form (by have:=(List.getElem?_eq_some_iff.1 hx).1; omega)
 obtain ⟨kv,-,-,-,m3,-,-⟩:=h4 k x hx
 obtain ⟨e1,e2,-⟩:=Value.slice.inj hv
 exact ⟨b,o,e1,e2,h3,m3⟩
set_option maxHeartbeats 4000000 in
theorem dec_2 (s:ByteArray) (C P:Int) (N:List Nd) (d1:DecT s C P N) (tq:true = tagB N tg4) (h4:N.length = 4) (x1 x3:Nd) (hx1:N[1]? = some x1) (hx3:N[3]? = some x3) (xs:List Int) (qd:Bool) (c2:MkI 61 #[.string x1.d] xs qd) (c3:Oid.RdII 62 Atm.under xs (.bool false)):Mak 24 #[.string s] (decT ((0,⟨#[]⟩),5)):=by
 intro w
 have HTQ:=lH tq
 clear tq
 have hr:=lH (show HR w w.heap.size #[.int .i64 0,.string ⟨#[]⟩] 35 (w.alloc (.cells #[.int .i64 0,.string ⟨#[]⟩] 35)) from ⟨heap_alloc_new w _⟩)
 have HS:=lH ((Since.refl w).alloc (.cells #[.int .i64 0,.string ⟨#[]⟩] 35))
 go_enter Tryz.func24,Tryz.ntmps24
 go_wp2_with fail
 refine (d1 _).mono ?_
 rintro _ w1 ⟨u1,rfl,hU,h1⟩
 obtain ⟨A1,q1,e1,-,-⟩:=hU.slice
 subst e1
 replace HS:=lH (HS.out.step h1)
 replace hr:=lH (hr.out.step h1)
 have r1:(w1.alloc (.cells #[.int .i64 0,.int .i64 0] 65)).heap[w1.heap.size]? = some (.cells #[.int .i64 0,.int .i64 0] 65 (0,0)):=heap_alloc_new w1 _
 have hb:=lH (hb_row (K:=KT) (C':=#[.int .i64 C,.int .i64 P]) ((Since.refl w1).alloc _) (Nat.le_refl _) trivial r1)
 have y0:=hb.out.cell 0 _ rfl
 replace HS:=lH (HS.out.step hb.out.since)
 replace hr:=lH (hr.out.step hb.out.since)
 have HU:=lH (hU.since hb.out.since)
 obtain ⟨n0,hn0⟩:∃ n,n = N.length:=⟨_,rfl⟩
 rw [<- hn0] at HU ⊢
 have HN0:=lH hn0
 clear hU h1 hn0
 go_wp2_with (refine RwL.at_store (ty:=65) rfl ?_; refine wpList_store_row rfl 65 _ _ rfl w1.heap.size #[.int .i64 C,.int .i64 P] (by rfl) (by rfl) _ _ r1 (f2_info C P) rfl (f2_one C P) ?_; generalize hw2:(w1.alloc (.cells #[.int .i64 0,.int .i64 0] 65)).setRow w1.heap.size #[.int .i64 C,.int .i64 P] = w2 at HS hr HU y0 ⊢; clear hw2 r1 hb)
 have hT4:=tagged_rd N tg4 (by decide) true HTQ.out
 refine (hT4 _ _ _ (HU.out.since ((Since.refl w2).alloc (.cells #[.int .i64 16,.int .i64 6,.int .i64 17,.int .i64 4] 3))) (SlR.lit w2 1 4 (tg4.map (Value.int .i64)) rfl (by decide) #[.int .i64 16,.int .i64 6,.int .i64 17,.int .i64 4] rfl 3)).mono ?_
 rintro _ w3 ⟨rfl,h3⟩
 replace h3:=((Since.refl w2).alloc (.cells #[.int .i64 16,.int .i64 6,.int .i64 17,.int .i64 4] 3)).step h3
 replace HS:=lH (HS.out.step h3)
 replace hr:=lH (hr.out.step h3)
 replace HU:=lH (HU.out.since h3)
 clear h3 hT4 y0
 obtain ⟨b,o,rfl,hn4,hlt,m1⟩:=at_data HU.out 1 x1 hx1
 obtain ⟨b',o',hbo,-,-,m3⟩:=at_data HU.out 3 x3 hx3
 cases hbo
 obtain rfl:n0 = 4:=by rw [hn4]; exact h4
 have HD:=lH (And.intro hlt m3)
 clear hn4 hlt m3
 go_wp2_with fail
 refine (c2 w3).mono ?_
 rintro _ w4 ⟨va,rfl,hva,h4'⟩
 obtain ⟨Aa,qa,ea,-,-⟩:=hva.slice
 subst ea
 replace HS:=lH (HS.out.step h4')
 replace hr:=lH (hr.out.step h4')
 have HVA:=lH hva
 have HD2:=lH (show b < w4.heap.size /\ w4.cell? ⟨b,o + 3 * 5 + 3,none⟩ = some (.string x3.d) from ⟨Nat.lt_of_lt_of_le HD.out.1 (Below.size h4'),(Below.cell h4' (p:=⟨b,o + 3 * 5 + 3,none⟩) HD.out.1).trans HD.out.2⟩)
 clear hva h4' HU HD m1
 go_wp2_with fail
 refine (under_0 w4).mono ?_
 rintro _ w5 ⟨vu,rfl,hvu,h5⟩
 obtain ⟨Au,qu,eu,-,-⟩:=hvu.slice
 replace eu:vu = .slice Au 8 qu:=eu
 subst eu
 replace HS:=lH (HS.out.step h5)
 replace hr:=lH (hr.out.step h5)
 replace HVA:=lH (HVA.out.since h5)
 have HD:=lH (show b < w5.heap.size /\ w5.cell? ⟨b,o + 3 * 5 + 3,none⟩ = some (.string x3.d) from ⟨Nat.lt_of_lt_of_le HD2.out.1 (Below.size h5),(Below.cell h5 (p:=⟨b,o + 3 * 5 + 3,none⟩) HD2.out.1).trans HD2.out.2⟩)
 have HVU:=lH hvu
 clear hvu h5 HD2
 go_wp2_with fail
 refine (c3 w5 _ _ HVU.out HVA.out).mono ?_
 rintro _ w6 ⟨rfl,h6⟩
 replace HS:=lH (HS.out.step h6)
 replace hr:=lH (hr.out.step h6)
 replace HVA:=lH (HVA.out.since h6)
 have HD2:=lH (show b < w6.heap.size /\ w6.cell? ⟨b,o + 3 * 5 + 3,none⟩ = some (.string x3.d) from ⟨Nat.lt_of_lt_of_le HD.out.1 (Below.size h6),(Below.cell h6 (p:=⟨b,o + 3 * 5 + 3,none⟩) HD.out.1).trans HD.out.2⟩)
 clear h6 HVU HD
 go_wp2_with (refine RwL.at_store (ty:=35) rfl ?_; refine wpList_store_row rfl 35 _ _ rfl w.heap.size #[.int .i64 0,.string ⟨#[]⟩] (by rfl) (by rfl) _ _ hr.out.row (a2_info 0 ⟨#[]⟩) rfl (a2_one 0 ⟨#[]⟩) ?_)
 exact bodyPost_ret (v:=.tuple #[.agg #[.int .i64 0,.string ⟨#[]⟩],.int .i64 5]) (results_cell_tmp2 Tryz.results24 _ _ _ _ _ _ _ _ rfl rfl (setRow_heap _ _ _ _ _ _ hr.out.row) Tryz.underlying35 rfl (a2_info 0 ⟨#[]⟩)) rfl ⟨rfl,below_setRow HS.out (Nat.le_refl _) _⟩
structure KD (wr:World) (ba oa b o:Nat) (x:Int) (d:ByteArray):Prop where
 lt1:ba < wr.heap.size
 lt2:b < wr.heap.size
 c1:wr.cell? ⟨ba,oa + 8,none⟩ = some (.int .i64 x)
 c2:wr.cell? ⟨b,o + 15 + 3,none⟩ = some (.string d)
theorem KD.at_ {wr W:World} {ba oa b o:Nat} {x:Int} {d:ByteArray} (h:KD wr ba oa b o x d) (hs:Since wr W):W.cell? ⟨ba,oa + 8,none⟩ = some (.int .i64 x) /\ W.cell? ⟨b,o + 15 + 3,none⟩ = some (.string d) :=
 ⟨(Below.cell hs (p:=⟨ba,oa + 8,none⟩) h.lt1).trans h.c1,(Below.cell hs (p:=⟨b,o + 15 + 3,none⟩) h.lt2).trans h.c2⟩
theorem drew_s (w:World):Since w w.drew:=⟨rfl,rfl,rfl,Nat.le_refl _,fun _ _ => rfl⟩
set_option maxHeartbeats 8000000 in
theorem dec_3 (s:ByteArray) (C P:Int) (N:List Nd) (d1:DecT s C P N) (tq:true = tagB N tg4) (h4:N.length = 4) (x1 x3:Nd) (hx1:N[1]? = some x1) (hx3:N[3]? = some x3) (xs:List Int) (qd:Bool) (c2:MkI 61 #[.string x1.d] xs qd) (c3:Oid.RdII 62 Atm.under xs (.bool true)) (x:Int) (hx:xs[8]? = some x) (d3:ByteArray) (hd3:x3.d = d3) (X:ByteArray) (E:Int) (c4:Mak 22 #[.agg #[.int .i64 x,.string d3]] (.tuple #[.string X,.int .i64 E])) (R:Att.A2 × Int) (hR:((E != 0) = true /\ R = ((0,⟨#[]⟩),5)) ∨ ((E != 0) = false /\ (X.toList == s.toList) = false /\ R = ((0,⟨#[]⟩),5)) ∨ ((E != 0) = false /\ (X.toList == s.toList) = true /\ R = ((x,d3),0))):Mak 24 #[.string s] (decT R):=by
 intro w
 have HTQ:=lH tq
 clear tq
 have hr:=lH (show HR w w.heap.size #[.int .i64 0,.string ⟨#[]⟩] 35 (w.alloc (.cells #[.int .i64 0,.string ⟨#[]⟩] 35)) from ⟨heap_alloc_new w _⟩)
 have HS:=lH ((Since.refl w).alloc (.cells #[.int .i64 0,.string ⟨#[]⟩] 35))
 go_enter Tryz.func24,Tryz.ntmps24
 go_wp2_with fail
 refine (d1 _).mono ?_
 rintro _ w1 ⟨u1,rfl,hU,h1⟩
 obtain ⟨A1,q1,e1,-,-⟩:=hU.slice
 subst e1
 replace HS:=lH (HS.out.step h1)
 replace hr:=lH (hr.out.step h1)
 have r1:(w1.alloc (.cells #[.int .i64 0,.int .i64 0] 65)).heap[w1.heap.size]? = some (.cells #[.int .i64 0,.int .i64 0] 65 (0,0)):=heap_alloc_new w1 _
 have hb:=lH (hb_row (K:=KT) (C':=#[.int .i64 C,.int .i64 P]) ((Since.refl w1).alloc _) (Nat.le_refl _) trivial r1)
 have y0:=hb.out.cell 0 _ rfl
 replace HS:=lH (HS.out.step hb.out.since)
 replace hr:=lH (hr.out.step hb.out.since)
 have HU:=lH (hU.since hb.out.since)
 obtain ⟨n0,hn0⟩:∃ n,n = N.length:=⟨_,rfl⟩
 rw [<- hn0] at HU ⊢
 have HN0:=lH hn0
 clear hU h1 hn0
 go_wp2_with (refine RwL.at_store (ty:=65) rfl ?_; refine wpList_store_row rfl 65 _ _ rfl w1.heap.size #[.int .i64 C,.int .i64 P] (by rfl) (by rfl) _ _ r1 (f2_info C P) rfl (f2_one C P) ?_; generalize hw2:(w1.alloc (.cells #[.int .i64 0,.int .i64 0] 65)).setRow w1.heap.size #[.int .i64 C,.int .i64 P] = w2 at HS hr HU y0 ⊢; clear hw2 r1 hb)
 have hT4:=tagged_rd N tg4 (by decide) true HTQ.out
 refine (hT4 _ _ _ (HU.out.since ((Since.refl w2).alloc (.cells #[.int .i64 16,.int .i64 6,.int .i64 17,.int .i64 4] 3))) (SlR.lit w2 1 4 (tg4.map (Value.int .i64)) rfl (by decide) #[.int .i64 16,.int .i64 6,.int .i64 17,.int .i64 4] rfl 3)).mono ?_
 rintro _ w3 ⟨rfl,h3⟩
 replace h3:=((Since.refl w2).alloc (.cells #[.int .i64 16,.int .i64 6,.int .i64 17,.int .i64 4] 3)).step h3
 replace HS:=lH (HS.out.step h3)
 replace hr:=lH (hr.out.step h3)
 replace HU:=lH (HU.out.since h3)
 clear h3 hT4 y0
 have HRX:=lH hR
 clear hR
 obtain ⟨b,o,rfl,hn4,hlt,m1⟩:=at_data HU.out 1 x1 hx1
 obtain ⟨b',o',hbo,-,-,m3⟩:=at_data HU.out 3 x3 hx3
 cases hbo
 obtain rfl:n0 = 4:=by rw [hn4]; exact h4
 have HD:=lH (And.intro hlt m3)
 clear hn4 hlt m3
 go_wp2_with fail
 refine (c2 w3).mono ?_
 rintro _ w4 ⟨va,rfl,hva,h4'⟩
 obtain ⟨Aa,qa,ea,-,-⟩:=hva.slice
 subst ea
 replace HS:=lH (HS.out.step h4')
 replace hr:=lH (hr.out.step h4')
 have HVA:=lH hva
 have HD2:=lH (show b < w4.heap.size /\ w4.cell? ⟨b,o + 3 * 5 + 3,none⟩ = some (.string x3.d) from ⟨Nat.lt_of_lt_of_le HD.out.1 (Below.size h4'),(Below.cell h4' (p:=⟨b,o + 3 * 5 + 3,none⟩) HD.out.1).trans HD.out.2⟩)
 clear hva h4' HU HD m1
 go_wp2_with fail
 refine (under_0 w4).mono ?_
 rintro _ w5 ⟨vu,rfl,hvu,h5⟩
 obtain ⟨Au,qu,eu,-,-⟩:=hvu.slice
 replace eu:vu = .slice Au 8 qu:=eu
 subst eu
 replace HS:=lH (HS.out.step h5)
 replace hr:=lH (hr.out.step h5)
 replace HVA:=lH (HVA.out.since h5)
 have HD:=lH (show b < w5.heap.size /\ w5.cell? ⟨b,o + 3 * 5 + 3,none⟩ = some (.string x3.d) from ⟨Nat.lt_of_lt_of_le HD2.out.1 (Below.size h5),(Below.cell h5 (p:=⟨b,o + 3 * 5 + 3,none⟩) HD2.out.1).trans HD2.out.2⟩)
 have HVU:=lH hvu
 clear hvu h5 HD2
 go_wp2_with fail
 refine (c3 w5 _ _ HVU.out HVA.out).mono ?_
 rintro _ w6 ⟨rfl,h6⟩
 replace HS:=lH (HS.out.step h6)
 replace hr:=lH (hr.out.step h6)
 replace HVA:=lH (HVA.out.since h6)
 have HD2:=lH (show b < w6.heap.size /\ w6.cell? ⟨b,o + 3 * 5 + 3,none⟩ = some (.string x3.d) from ⟨Nat.lt_of_lt_of_le HD.out.1 (Below.size h6),(Below.cell h6 (p:=⟨b,o + 3 * 5 + 3,none⟩) HD.out.1).trans HD.out.2⟩)
 clear h6 HVU HD
 have hR:=HRX.out
 obtain ⟨ba,oa,ca,hva,f1,f2,f3,f4⟩:=HVA.out.form (by have:=(List.getElem?_eq_some_iff.1 hx).1; omega)
 obtain ⟨rfl,-,rfl⟩:=Value.slice.inj hva
 have f8:=f4 8 (List.getElem?_eq_some_iff.1 hx).1
 rw [show xs.getD 8 0 = x by rw [List.getD_eq_getElem?_getD,hx]; rfl] at f8
 have HKD:=lH (show KD w6 ba oa b o x d3 from ⟨f3,HD2.out.1,f8,by rw [<- hd3]; exact HD2.out.2⟩)
 have i1:(8:Int) < (xs.length:Int):=by have:=(List.getElem?_eq_some_iff.1 hx).1; omega
 obtain ⟨nx,hnx⟩:∃ n,n = xs.length:=⟨_,rfl⟩
 rw [<- hnx] at i1 ⊢
 have hlw:w.heap.size < w6.heap.size:=(Array.getElem?_eq_some_iff.1 hr.out.row).1
 clear hva f1 f2 f3 f4 f8 HD2 HVA hnx hR
 go_wp2_with fail
 have HB:Hid (Since w6 w6):=lH (Since.refl w6)
 refine RegW.start (fun W' => Hid (Since w6 W') /\ W'.cell? ⟨ba,oa + 8,none⟩ = some (.int .i64 x) /\ W'.cell? ⟨b,o + 15 + 3,none⟩ = some (.string d3)) 11 (by kernel_rfl) ⟨lH (HB.out.step (drew_s _)),HKD.out.at_ (HB.out.step (drew_s _))⟩ (fun hHeld => ?_)
 replace HB:=lH (HB.out.step (drew_s w6))
 obtain ⟨wa,hwa⟩:∃ W,W = w6.drew:=⟨_,rfl⟩
 rw [<- hwa] at HB hHeld ⊢
 clear hwa
 refine RegW.take (i:=0) (v:=?_) rfl (by kernel_rfl) (by kernel_rfl) (by kernel_rfl) (by kernel_rfl) (fun _ _ _ h => h) (Or.inl ⟨by kernel_rfl, ?_⟩) (by assumption) ?_
 rotate_left
 · intro w hSw
   go_split_ands
   go_simp
   try with_reducible rfl
 try simp only [Act.put,List.setIfInBounds_toArray]
 refine RegW.take (i:=5) (v:=?_) rfl (by kernel_rfl) (by kernel_rfl) (by kernel_rfl) (by kernel_rfl) (fun _ _ _ h => h) (Or.inl ⟨by kernel_rfl, ?_⟩) (by assumption) ?_
 rotate_left
 · intro w hSw
   go_split_ands
   go_simp
   try with_reducible rfl
 try simp only [Act.put]
 refine RegW.take (i:=6) (v:=?_) rfl (by kernel_rfl) (by kernel_rfl) (by kernel_rfl) (by kernel_rfl) (fun _ _ _ h => h) (Or.inl ⟨by kernel_rfl, ?_⟩) (by assumption) ?_
 rotate_left
 · intro w hSw
   go_split_ands
   go_simp
   try with_reducible rfl
 try simp only [Act.put]
 refine RegW.take (i:=7) (v:=?_) rfl (by kernel_rfl) (by kernel_rfl) (by kernel_rfl) (by kernel_rfl) (fun _ _ _ h => h) (Or.inl ⟨by kernel_rfl, ?_⟩) (by assumption) ?_
 rotate_left
 · intro w hSw
   go_split_ands
   go_simp
   try with_reducible rfl
 try simp only [Act.put]
 refine RegW.take (i:=8) (v:=?_) rfl (by kernel_rfl) (by kernel_rfl) (by kernel_rfl) (by kernel_rfl) (fun _ _ _ h => h) (Or.inl ⟨by kernel_rfl, ?_⟩) (by assumption) ?_
 rotate_left
 · intro w hSw
   go_split_ands
   go_simp
   try with_reducible rfl
 try simp only [Act.put]
 have hR:=HRX.out
 refine RegW.either (i:=1) (j:=10) (by kernel_rfl) (RegW.one rfl (fun K hK => ?_)) (RegW.one rfl (fun K hK => ?_))
 · go_simp
   go_at_call 51
   refine (under_0 _).mono ?_
   rintro _ wb ⟨vz,rfl,hvz,hz⟩
   obtain ⟨Az,qz,ez,-,-⟩:=hvz.slice
   replace ez:vz = .slice Az 8 qz:=ez
   subst ez
   replace HB:=lH (HB.out.step hz)
   have hlg:w.heap.size < wb.heap.size:=Nat.lt_of_lt_of_le hlw (Below.size HB.out)
   refine hK.out _ _ ⟨HB,HKD.out.at_ HB.out⟩ (fun hHeld => ?_)
   clear hK K
   try simp only [Act.put,List.setIfInBounds_toArray,List.set_cons_zero,List.set_cons_succ]
   refine RegW.take (i:=2) (v:=?_) rfl (by kernel_rfl) (by kernel_rfl) (by kernel_rfl) (by kernel_rfl) (fun _ _ _ h => h) (Or.inl ⟨by kernel_rfl, ?_⟩) (by assumption) ?_
   rotate_left
   · intro w hSw
     go_split_ands
     go_simp
     try with_reducible rfl
   try simp only [Act.put,List.setIfInBounds_toArray]
   refine RegW.take (i:=3) (v:=?_) rfl (by kernel_rfl) (by kernel_rfl) (by kernel_rfl) (by kernel_rfl) (fun _ _ _ h => h) (Or.inl ⟨by kernel_rfl, ?_⟩) (by assumption) ?_
   rotate_left
   · intro w hSw
     go_split_ands
     go_simp
     try with_reducible rfl
   try simp only [Act.put]
   refine RegW.take (i:=4) (v:=?_) rfl (by kernel_rfl) (by kernel_rfl) (by kernel_rfl) (by kernel_rfl) (fun _ _ _ h => h) (Or.inl ⟨by kernel_rfl, ?_⟩) (by assumption) ?_
   rotate_left
   · intro w hSw
     go_split_ands
     go_simp
     try with_reducible rfl
   try simp only [Act.put]
   refine RegW.take (i:=9) (v:=?_) rfl (by kernel_rfl) (by kernel_rfl) (by kernel_rfl) (by kernel_rfl) (fun _ _ _ h => h) (Or.inl ⟨by kernel_rfl, ?_⟩) (by assumption) ?_
   rotate_left
   · intro w hSw
     go_split_ands
     go_simp
     try with_reducible rfl
   try simp only [Act.put]
   refine RegW.only (i:=10) rfl (by kernel_rfl) (fun K hK => ?_)
   go_simp
   refine hK.out _ _ ⟨lH (HB.out.alloc (.cells #[.int .i64 0,.string ⟨#[]⟩] 35)),HKD.out.at_ (HB.out.alloc _)⟩ (fun hHeld => ?_)
   clear hK K
   try simp only [Act.put,List.setIfInBounds_toArray,List.set_cons_zero,List.set_cons_succ]
   have r8:(wb.alloc (.cells #[.int .i64 0,.string ⟨#[]⟩] 35)).heap[wb.heap.size]? = some (.cells #[.int .i64 0,.string ⟨#[]⟩] 35 (0,0)):=heap_alloc_new wb _
   replace HB:=lH (HB.out.alloc (.cells #[.int .i64 0,.string ⟨#[]⟩] 35))
   replace HS:=lH (HS.out.step HB.out)
   replace hr:=lH (hr.out.step HB.out)
   obtain ⟨g8,hg8⟩:∃ g,g = wb.heap.size:=⟨_,rfl⟩
   rw [<- hg8] at r8 hlg ⊢
   refine RegW.last rfl (by kernel_rfl) (by kernel_rfl) ?_
   clear hHeld hg8
   generalize wb.alloc (.cells #[.int .i64 0,.string ⟨#[]⟩] 35) = ws at HS hr HB r8 ⊢
   have hg:Hid (HR w g8 #[.int .i64 x,.string d3] 35 (ws.setRow g8 #[.int .i64 x,.string d3])):=lH ⟨setRow_heap _ _ _ _ _ _ r8⟩
   have hr':Hid (HR w w.heap.size #[.int .i64 0,.string ⟨#[]⟩] 35 (ws.setRow g8 #[.int .i64 x,.string d3])):=lH ⟨(setRow_other _ _ _ _ (by omega)).trans hr.out.row⟩
   have HS':Hid (Since w (ws.setRow g8 #[.int .i64 x,.string d3])):=lH (below_setRow HS.out (by omega) _)
   refine wpList_store_row rfl 35 _ _ rfl g8 #[.int .i64 x,.string d3] (by rfl) (by rfl) _ _ r8 (a2_info x d3) rfl (a2_one x d3) ?_
   replace HS:=HS'
   replace hr:=hr'
   generalize ws.setRow g8 #[.int .i64 x,.string d3] = w8 at HS hr hg ⊢
   clear r8 HS' hr'
   have k0:=hr_cell hg.out 0 _ rfl
   have k1:=hr_cell hg.out 1 _ rfl
   replace k0:w8.cell? ⟨g8,0,none⟩ = some (.int .i64 x):=k0
   replace k1:w8.cell? ⟨g8,1,none⟩ = some (.string d3):=k1
   go_wp2_with fail
   refine c4.calls0 ?_
   intro w9 h9
   replace HS:=lH (HS.out.step h9)
   replace hr:=lH (hr.out.step h9)
   replace hg:=lH (hg.out.step h9)
   clear k0 k1 h9
   have k0:=hr_cell hg.out 0 _ rfl
   have k1:=hr_cell hg.out 1 _ rfl
   replace k0:w9.cell? ⟨g8,0,none⟩ = some (.int .i64 x):=k0
   replace k1:w9.cell? ⟨g8,1,none⟩ = some (.string d3):=k1
   have HRR:=lH hR
   rcases hR with ⟨t1,rfl⟩ | ⟨t1,t2,rfl⟩ | ⟨t1,t2,rfl⟩
   · clear HRR k0 k1
     go_wp2_with (refine RwL.at_store (ty:=35) rfl ?_; refine wpList_store_row rfl 35 _ _ rfl w.heap.size #[.int .i64 0,.string ⟨#[]⟩] (by rfl) (by rfl) _ _ hr.out.row (a2_info 0 ⟨#[]⟩) rfl (a2_one 0 ⟨#[]⟩) ?_)
     exact bodyPost_ret (v:=.tuple #[.agg #[.int .i64 0,.string ⟨#[]⟩],.int .i64 5]) (results_cell_tmp2 Tryz.results24 _ _ _ _ _ _ _ _ rfl rfl (setRow_heap _ _ _ _ _ _ hr.out.row) Tryz.underlying35 rfl (a2_info 0 ⟨#[]⟩)) rfl ⟨rfl,below_setRow HS.out (Nat.le_refl _) _⟩
   · clear HRR k0 k1
     go_wp2_with (refine RwL.at_store (ty:=35) rfl ?_; refine wpList_store_row rfl 35 _ _ rfl w.heap.size #[.int .i64 0,.string ⟨#[]⟩] (by rfl) (by rfl) _ _ hr.out.row (a2_info 0 ⟨#[]⟩) rfl (a2_one 0 ⟨#[]⟩) ?_)
     exact bodyPost_ret (v:=.tuple #[.agg #[.int .i64 0,.string ⟨#[]⟩],.int .i64 5]) (results_cell_tmp2 Tryz.results24 _ _ _ _ _ _ _ _ rfl rfl (setRow_heap _ _ _ _ _ _ hr.out.row) Tryz.underlying35 rfl (a2_info 0 ⟨#[]⟩)) rfl ⟨rfl,below_setRow HS.out (Nat.le_refl _) _⟩
   · clear HRR
     go_wp2_with (refine RwL.at_store (ty:=35) rfl ?_; refine wpList_store_row rfl 35 _ _ rfl w.heap.size #[.int .i64 x,.string d3] (by rfl) (by rfl) _ _ hr.out.row (a2_info x d3) rfl (a2_one x d3) ?_)
     exact bodyPost_ret (v:=.tuple #[.agg #[.int .i64 x,.string d3],.int .i64 0]) (results_cell_tmp2 Tryz.results24 _ _ _ _ _ _ _ _ rfl rfl (setRow_heap _ _ _ _ _ _ hr.out.row) Tryz.underlying35 rfl (a2_info x d3)) rfl ⟨rfl,below_setRow HS.out (Nat.le_refl _) _⟩
 · have hlg:w.heap.size < wa.heap.size:=Nat.lt_of_lt_of_le hlw (Below.size HB.out)
   go_simp
   refine hK.out _ _ ⟨lH (HB.out.alloc (.cells #[.int .i64 0,.string ⟨#[]⟩] 35)),HKD.out.at_ (HB.out.alloc _)⟩ (fun hHeld => ?_)
   clear hK K
   try simp only [Act.put,List.setIfInBounds_toArray,List.set_cons_zero,List.set_cons_succ]
   have r9:HR w wa.heap.size #[.int .i64 0,.string ⟨#[]⟩] 35 (wa.alloc (.cells #[.int .i64 0,.string ⟨#[]⟩] 35)):=⟨heap_alloc_new wa _⟩
   replace HB:=lH (HB.out.alloc (.cells #[.int .i64 0,.string ⟨#[]⟩] 35))
   obtain ⟨g8,hg8⟩:∃ g,g = wa.heap.size:=⟨_,rfl⟩
   rw [<- hg8] at r9 hlg ⊢
   generalize wa.alloc (.cells #[.int .i64 0,.string ⟨#[]⟩] 35) = wq at HB r9 hHeld ⊢
   have HR9:=lH r9
   clear hg8 r9
   refine RegW.only (i:=1) rfl (by kernel_rfl) (fun K hK => ?_)
   go_simp
   go_at_call 51
   refine (under_0 _).mono ?_
   rintro _ ws ⟨vz,rfl,hvz,hz⟩
   obtain ⟨Az,qz,ez,-,-⟩:=hvz.slice
   replace ez:vz = .slice Az 8 qz:=ez
   subst ez
   replace HB:=lH (HB.out.step hz)
   replace HR9:=lH (HR9.out.step hz)
   refine hK.out _ _ ⟨HB,HKD.out.at_ HB.out⟩ (fun hHeld => ?_)
   clear hK K
   try simp only [Act.put,List.setIfInBounds_toArray,List.set_cons_zero,List.set_cons_succ]
   refine RegW.take (i:=2) (v:=?_) rfl (by kernel_rfl) (by kernel_rfl) (by kernel_rfl) (by kernel_rfl) (fun _ _ _ h => h) (Or.inl ⟨by kernel_rfl, ?_⟩) (by assumption) ?_
   rotate_left
   · intro w hSw
     go_split_ands
     go_simp
     try with_reducible rfl
   try simp only [Act.put,List.setIfInBounds_toArray]
   refine RegW.take (i:=3) (v:=?_) rfl (by kernel_rfl) (by kernel_rfl) (by kernel_rfl) (by kernel_rfl) (fun _ _ _ h => h) (Or.inl ⟨by kernel_rfl, ?_⟩) (by assumption) ?_
   rotate_left
   · intro w hSw
     go_split_ands
     go_simp
     try with_reducible rfl
   try simp only [Act.put]
   refine RegW.take (i:=4) (v:=?_) rfl (by kernel_rfl) (by kernel_rfl) (by kernel_rfl) (by kernel_rfl) (fun _ _ _ h => h) (Or.inl ⟨by kernel_rfl, ?_⟩) (by assumption) ?_
   rotate_left
   · intro w hSw
     go_split_ands
     go_simp
     try with_reducible rfl
   try simp only [Act.put]
   refine RegW.take (i:=9) (v:=?_) rfl (by kernel_rfl) (by kernel_rfl) (by kernel_rfl) (by kernel_rfl) (fun _ _ _ h => h) (Or.inl ⟨by kernel_rfl, ?_⟩) (by assumption) ?_
   rotate_left
   · intro w hSw
     go_split_ands
     go_simp
     try with_reducible rfl
   try simp only [Act.put]
   replace HS:=lH (HS.out.step HB.out)
   replace hr:=lH (hr.out.step HB.out)
   have r8:=HR9.out.row
   refine RegW.last rfl (by kernel_rfl) (by kernel_rfl) ?_
   clear hHeld HR9
   have hg:Hid (HR w g8 #[.int .i64 x,.string d3] 35 (ws.setRow g8 #[.int .i64 x,.string d3])):=lH ⟨setRow_heap _ _ _ _ _ _ r8⟩
   have hr':Hid (HR w w.heap.size #[.int .i64 0,.string ⟨#[]⟩] 35 (ws.setRow g8 #[.int .i64 x,.string d3])):=lH ⟨(setRow_other _ _ _ _ (by omega)).trans hr.out.row⟩
   have HS':Hid (Since w (ws.setRow g8 #[.int .i64 x,.string d3])):=lH (below_setRow HS.out (by omega) _)
   refine wpList_store_row rfl 35 _ _ rfl g8 #[.int .i64 x,.string d3] (by rfl) (by rfl) _ _ r8 (a2_info x d3) rfl (a2_one x d3) ?_
   replace HS:=HS'
   replace hr:=hr'
   generalize ws.setRow g8 #[.int .i64 x,.string d3] = w8 at HS hr hg ⊢
   clear r8 HS' hr'
   have k0:=hr_cell hg.out 0 _ rfl
   have k1:=hr_cell hg.out 1 _ rfl
   replace k0:w8.cell? ⟨g8,0,none⟩ = some (.int .i64 x):=k0
   replace k1:w8.cell? ⟨g8,1,none⟩ = some (.string d3):=k1
   go_wp2_with fail
   refine c4.calls0 ?_
   intro w9 h9
   replace HS:=lH (HS.out.step h9)
   replace hr:=lH (hr.out.step h9)
   replace hg:=lH (hg.out.step h9)
   clear k0 k1 h9
   have k0:=hr_cell hg.out 0 _ rfl
   have k1:=hr_cell hg.out 1 _ rfl
   replace k0:w9.cell? ⟨g8,0,none⟩ = some (.int .i64 x):=k0
   replace k1:w9.cell? ⟨g8,1,none⟩ = some (.string d3):=k1
   have HRR:=lH hR
   rcases hR with ⟨t1,rfl⟩ | ⟨t1,t2,rfl⟩ | ⟨t1,t2,rfl⟩
   · clear HRR k0 k1
     go_wp2_with (refine RwL.at_store (ty:=35) rfl ?_; refine wpList_store_row rfl 35 _ _ rfl w.heap.size #[.int .i64 0,.string ⟨#[]⟩] (by rfl) (by rfl) _ _ hr.out.row (a2_info 0 ⟨#[]⟩) rfl (a2_one 0 ⟨#[]⟩) ?_)
     exact bodyPost_ret (v:=.tuple #[.agg #[.int .i64 0,.string ⟨#[]⟩],.int .i64 5]) (results_cell_tmp2 Tryz.results24 _ _ _ _ _ _ _ _ rfl rfl (setRow_heap _ _ _ _ _ _ hr.out.row) Tryz.underlying35 rfl (a2_info 0 ⟨#[]⟩)) rfl ⟨rfl,below_setRow HS.out (Nat.le_refl _) _⟩
   · clear HRR k0 k1
     go_wp2_with (refine RwL.at_store (ty:=35) rfl ?_; refine wpList_store_row rfl 35 _ _ rfl w.heap.size #[.int .i64 0,.string ⟨#[]⟩] (by rfl) (by rfl) _ _ hr.out.row (a2_info 0 ⟨#[]⟩) rfl (a2_one 0 ⟨#[]⟩) ?_)
     exact bodyPost_ret (v:=.tuple #[.agg #[.int .i64 0,.string ⟨#[]⟩],.int .i64 5]) (results_cell_tmp2 Tryz.results24 _ _ _ _ _ _ _ _ rfl rfl (setRow_heap _ _ _ _ _ _ hr.out.row) Tryz.underlying35 rfl (a2_info 0 ⟨#[]⟩)) rfl ⟨rfl,below_setRow HS.out (Nat.le_refl _) _⟩
   · clear HRR
     go_wp2_with (refine RwL.at_store (ty:=35) rfl ?_; refine wpList_store_row rfl 35 _ _ rfl w.heap.size #[.int .i64 x,.string d3] (by rfl) (by rfl) _ _ hr.out.row (a2_info x d3) rfl (a2_one x d3) ?_)
     exact bodyPost_ret (v:=.tuple #[.agg #[.int .i64 x,.string d3],.int .i64 0]) (results_cell_tmp2 Tryz.results24 _ _ _ _ _ _ _ _ rfl rfl (setRow_heap _ _ _ _ _ _ hr.out.row) Tryz.underlying35 rfl (a2_info x d3)) rfl ⟨rfl,below_setRow HS.out (Nat.le_refl _) _⟩
end Atf
namespace Atf
open Att Rw Atm Tlv Tree Strs
theorem size_le (g:F):∀ (i:Nat),∀ x ∈ g.flat i,x.d.size <= g.enc.length:=by
 induction g with
 | nil => intro i x h; cases h
 | prim c t d nx ih =>
   intro i x h
   have hE:(F.prim c t d nx).enc.length = (Head.encL c t false d.size).length + d.data.toList.length + nx.enc.length:=by
     show (Head.encL c t false d.size ++ d.data.toList ++ nx.enc).length = _
     rw [List.length_append,List.length_append]
   have hd:d.data.toList.length = d.size:=rfl
   rcases List.mem_cons.1 (show x ∈ (⟨c,t,false,d,[]⟩:Nd) :: nx.flat (i + 1) from h) with rfl | h
   · dsimp only; omega
   · have:=ih _ x h; omega
 | cons c t ks nx ih1 ih2 =>
   intro i x h
   have hE:(F.cons c t ks nx).enc.length = (Head.encL c t true ks.enc.length).length + ks.enc.length + nx.enc.length:=by
     show (Head.encL c t true ks.enc.length ++ ks.enc ++ nx.enc).length = _
     rw [List.length_append,List.length_append]
   rcases List.mem_cons.1 (show x ∈ (⟨c,t,true,⟨#[]⟩,ks.tops (i + 1)⟩:Nd) :: (ks.flat (i + 1) ++ nx.flat (i + 1 + ks.cnt)) from h) with rfl | h
   · exact Nat.zero_le _
   · rcases List.mem_append.1 h with h | h
     · have:=ih1 _ x h; omega
     · have:=ih2 _ x h; omega
theorem tag_att (p:Att.A2):tagB ((attF p).flat 0) tg4 = true:=rfl
theorem att_nodes (p:Att.A2):((attF p).flat 0)[1]? = some ⟨0,6,false,nmA p.1,[]⟩ /\ ((attF p).flat 0)[3]? = some ⟨0,4,false,p.2,[]⟩:=⟨rfl,rfl⟩
theorem und_att (t:Int) (h:0 <= t /\ t <= 2147483647):Oid.und Atm.under (Oid.decL (nmA t).data.toList) = true /\ (Oid.decL (nmA t).data.toList)[8]? = some t:=by
 rw [(nm_dec t h).2]
 exact ⟨by unfold Oid.und; exact decide_eq_true ⟨by show 8 < 9; omega,rfl⟩,rfl⟩
theorem yes_top {s:ByteArray} {p:Att.A2} (h:Ok1 p) (he:encA p = s):top rightB s = .ok (attF p):=by rw [<- he]; exact top_att p h
structure Is4 (N:List Nd) (x1 x3:Nd):Prop where
 len:N.length = 4
 a1:N[1]? = some x1
 a3:N[3]? = some x3
theorem is4 {N:List Nd} (h:tagB N tg4 = true):∃ x1 x3,Is4 N x1 x3:=by
 unfold tagB at h
 rw [Bool.and_eq_true,decide_eq_true_eq] at h
 have h1:N.length = 4:=h.1
 exact ⟨N[1]'(by omega),N[3]'(by omega),h1,List.getElem?_eq_getElem _,List.getElem?_eq_getElem _⟩
theorem decode_mk (s:ByteArray) (hm:s.size <= 65535):Mak 24 #[.string s] (decT (decV s)):=by
 have hm2:s.size <= maxLen:=by unfold maxLen; omega
 cases ht:top rightB s with
 | error z =>
   obtain ⟨c,q⟩:=z
   have d1:DecT s (c:Int) (q:Int) []:=fun w => dec_u s hm2 c q _ _ (show topV s = (c,q,[],[]) by unfold topV; rw [ht]) w
   rw [decV_no s (fun ⟨p,h1,h2⟩ => by rw [yes_top h1 h2] at ht; cases ht)]
   exact dec_1 s _ _ [] d1 rfl
 | ok g =>
   have d1:DecT s 0 0 (g.flat 0):=fun w => dec_u s hm2 0 0 _ _ (show topV s = (0,0,g.flat 0,g.spans 0) by unfold topV; rw [ht]) w
   cases hq:tagB (g.flat 0) tg4 with
   | false =>
     rw [decV_no s (fun ⟨p,h1,h2⟩ => by
       rw [yes_top h1 h2] at ht
       cases ht
       rw [tag_att p] at hq
       cases hq)]
     exact dec_1 s _ _ _ d1 hq.symm
   | true =>
     obtain ⟨x1,x3,h4,a1,a3⟩:=is4 hq
     obtain ⟨hg,he⟩:=top_is ht
     have hel:g.enc.length = s.size:=by rw [he]; rfl
     have hx1:=size_le g 0 x1 (List.mem_of_getElem? a1)
     have hx3:=size_le g 0 x3 (List.mem_of_getElem? a3)
     have c2:=Oid.decode_mk x1.d (by omega) _ _ rfl rfl
     have hyes:∀ p,Ok1 p -> encA p = s -> Oid.und Atm.under (Oid.decL x1.d.data.toList) = true /\ (Oid.decL x1.d.data.toList)[8]? = some p.1 /\ x3.d = p.2:=fun p h1 h2 => by
       rw [yes_top h1 h2] at ht
       cases ht
       rw [(att_nodes p).1] at a1
       rw [(att_nodes p).2] at a3
       cases a1
       cases a3
       obtain ⟨g1,g2⟩:=und_att p.1 (ok_num h1)
       exact ⟨g1,g2,rfl⟩
     have c3:=Oid.under_rd Atm.under (Oid.decL x1.d.data.toList) _ rfl
     cases hu:Oid.und Atm.under (Oid.decL x1.d.data.toList) with
     | false =>
       rw [decV_no s (fun ⟨p,h1,h2⟩ => by rw [(hyes p h1 h2).1] at hu; cases hu)]
       rw [hu] at c3
       exact dec_2 s _ _ _ d1 hq.symm h4 x1 x3 a1 a3 _ _ c2 c3
     | true =>
       rw [hu] at c3
       obtain ⟨x,hx⟩:∃ x,(Oid.decL x1.d.data.toList)[8]? = some x:=by
         unfold Oid.und at hu
         have h9:=(of_decide_eq_true hu).1
         exact ⟨_,List.getElem?_eq_getElem h9⟩
       have c4:=encode_mk (x,x3.d)
       unfold encW at c4
       have hp:∀ p,Ok1 p -> encA p = s -> p = (x,x3.d):=fun p h1 h2 => by
         obtain ⟨-,g2,g3⟩:=hyes p h1 h2
         rw [hx] at g2
         exact Prod.ext (Option.some.inj g2).symm g3.symm
       refine dec_3 s _ _ _ d1 hq.symm h4 x1 x3 a1 a3 _ _ c2 c3 x hx x3.d rfl _ _ c4 _ ?_
       by_cases hk:attOk [(x,x3.d)] = true
       · have hE:attE [(x,x3.d)] = 0:=(attE_zero _).2 hk
         rw [hE,if_pos hk]
         by_cases hs:encA (x,x3.d) = s
         · refine Or.inr (Or.inr ⟨rfl,by rw [hs]; exact beq_self_eq_true _, ?_⟩)
           rw [<- hs]
           exact decV_yes _ ((Atm.ok_one _).1 hk)
         · refine Or.inr (Or.inl ⟨rfl,str_ne_f hs,decV_no s fun ⟨p,h1,h2⟩ => hs ?_⟩)
           rw [<- hp p h1 h2]
           exact h2
       · refine Or.inl ⟨bne_iff_ne.2 fun h9 => hk ((attE_zero _).1 h9),decV_no s fun ⟨p,h1,h2⟩ => hk ?_⟩
         rw [<- hp p h1 h2]
         exact (Atm.ok_one p).2 h1
end Atf
namespace Atf
open Att Rw Tlv Tree Strs Atm
theorem renc_bad (t:Int) (v:ByteArray) (c1:RdA 16 [(t,v)] (fun x => #[x]) (.int .i64 11)):Mak 23 #[.agg #[.int .i64 t,.string v]] (.tuple #[.string ⟨#[]⟩,.int .i64 11]):=by
 intro w
 have m0:(w.alloc (.cells #[.int .i64 t,.string v] 35)).cell? ⟨w.heap.size,0,none⟩ = some (.int .i64 t):=(World.cell?_alloc_new _ _ _ _).trans rfl
 have m1:(w.alloc (.cells #[.int .i64 t,.string v] 35)).cell? ⟨w.heap.size,1,none⟩ = some (.string v):=(World.cell?_alloc_new _ _ _ _).trans rfl
 have HS:=lH ((Since.refl w).alloc (.cells #[.int .i64 t,.string v] 35))
 have HM:=lH (And.intro m0 m1)
 have e9:(w.alloc (.cells #[.int .i64 t,.string v] 35)).heap.size = w.heap.size + 1:=by simp
 have hl9:=SlR.lit (w.alloc (.cells #[.int .i64 t,.string v] 35)) 2 1 (ac (t,v)) rfl (by decide) #[.int .i64 t,.string v] rfl 35
 rw [e9] at hl9
 have HL:=lH hl9
 clear hl9 e9
 have hb:=(Since.refl (w.alloc (.cells #[.int .i64 t,.string v] 35))).alloc (.cells #[.int .i64 t,.string v] 35)
 go_enter Tryz.func23,Tryz.ntmps23
 go_wp2_with fail
 refine (c1 _ _ (show AttsS _ _ [(t,v)] from HL.out)).mono ?_
 rintro _ w1 ⟨rfl,h1⟩
 have h2:Since (w.alloc (.cells #[.int .i64 t,.string v] 35)) w1:=hb.step h1
 have hlt:w.heap.size < (w.alloc (.cells #[.int .i64 t,.string v] 35)).heap.size:=by simp
 have n0:=(Below.cell h2 (p:=⟨w.heap.size,0,none⟩) hlt).trans HM.out.1
 have n1:=(Below.cell h2 (p:=⟨w.heap.size,1,none⟩) hlt).trans HM.out.2
 replace HS:=lH (HS.out.step h2)
 clear m0 m1 h1 h2 hb HL HM
 clear n0 n1
 go_wp2_with fail
 go_ret2
 exact ⟨rfl,HS.out⟩
set_option maxHeartbeats 4000000 in
theorem renc_good (t:Int) (v nm X:ByteArray) (qn:Bool) (c1:RdA 16 [(t,v)] (fun x => #[x]) (.int .i64 0)) (c2:∀ w x,IntsS w x (Atm.arcsA t) -> Calls Tryz.prog 55 #[x] w fun e w' => e = .returned (.tuple #[.string nm,.bool qn]) /\ Since w w') (c5:RdT 58 ((nmF nm v).flat 0) (fun x => #[x]) (.tuple #[.string X,.int .i64 0])):Mak 23 #[.agg #[.int .i64 t,.string v]] (.tuple #[.string X,.int .i64 0]):=by
 obtain ⟨E,hE⟩:∃ E:Int,E = 0:=⟨_,rfl⟩
 rw [<- hE] at c1
 have hE2:(E != 0) = false:=by rw [hE]; rfl
 clear hE
 intro w
 have m0:(w.alloc (.cells #[.int .i64 t,.string v] 35)).cell? ⟨w.heap.size,0,none⟩ = some (.int .i64 t):=(World.cell?_alloc_new _ _ _ _).trans rfl
 have m1:(w.alloc (.cells #[.int .i64 t,.string v] 35)).cell? ⟨w.heap.size,1,none⟩ = some (.string v):=(World.cell?_alloc_new _ _ _ _).trans rfl
 have HS:=lH ((Since.refl w).alloc (.cells #[.int .i64 t,.string v] 35))
 have HM:=lH (And.intro m0 m1)
 have e9:(w.alloc (.cells #[.int .i64 t,.string v] 35)).heap.size = w.heap.size + 1:=by simp
 have hl9:=SlR.lit (w.alloc (.cells #[.int .i64 t,.string v] 35)) 2 1 (ac (t,v)) rfl (by decide) #[.int .i64 t,.string v] rfl 35
 rw [e9] at hl9
 have HL:=lH hl9
 clear hl9 e9
 have hb:=(Since.refl (w.alloc (.cells #[.int .i64 t,.string v] 35))).alloc (.cells #[.int .i64 t,.string v] 35)
 go_enter Tryz.func23,Tryz.ntmps23
 go_wp2_with fail
 refine (c1 _ _ (show AttsS _ _ [(t,v)] from HL.out)).mono ?_
 rintro _ w1 ⟨rfl,h1⟩
 have h2:Since (w.alloc (.cells #[.int .i64 t,.string v] 35)) w1:=hb.step h1
 have hlt:w.heap.size < (w.alloc (.cells #[.int .i64 t,.string v] 35)).heap.size:=by simp
 have n0:=(Below.cell h2 (p:=⟨w.heap.size,0,none⟩) hlt).trans HM.out.1
 have n1:=(Below.cell h2 (p:=⟨w.heap.size,1,none⟩) hlt).trans HM.out.2
 replace HS:=lH (HS.out.step h2)
 clear m0 m1 h1 h2 hb HL HM
 have HV:=lH (show IntsS (w1.alloc (.cells #[.int .i64 1,.int .i64 3,.int .i64 6,.int .i64 1,.int .i64 4,.int .i64 1,.int .i64 99999,.int .i64 7,.int .i64 t] 3)) (.slice (some ⟨w1.heap.size,0,none⟩) 9 9) (Atm.arcsA t) from SlR.lit w1 1 9 ((Atm.arcsA t).map (Value.int .i64)) rfl (by decide) #[.int .i64 1,.int .i64 3,.int .i64 6,.int .i64 1,.int .i64 4,.int .i64 1,.int .i64 99999,.int .i64 7,.int .i64 t] rfl 3)
 have h9:=(Since.refl w1).alloc (.cells #[.int .i64 1,.int .i64 3,.int .i64 6,.int .i64 1,.int .i64 4,.int .i64 1,.int .i64 99999,.int .i64 7,.int .i64 t] 3)
 replace HS:=lH (HS.out.step h9)
 have n1':=(Below.cell h9 (p:=⟨w.heap.size,1,none⟩) (block_lt_of_cell n1)).trans n1
 clear hlt h9
 go_wp2_with fail
 refine (c2 _ _ HV.out).mono ?_
 rintro _ w3 ⟨rfl,h3⟩
 have n3:=(Below.cell h3 (p:=⟨w.heap.size,1,none⟩) (block_lt_of_cell n1')).trans n1'
 replace HS:=lH (HS.out.step h3)
 clear h3 HV n0 n1 n1'
 go_wp2_with fail
 refine (rleaf_mk 0 4 v _).mono ?_
 rintro _ w4 ⟨v4,rfl,t4,h4⟩
 obtain ⟨A4,q4,e4,-,-⟩:=t4.slice
 replace e4:v4 = .slice A4 1 q4:=e4
 subst e4
 replace HS:=lH (HS.out.step h4)
 have hb:=(Since.refl w4).alloc (.cells #[.slice A4 1 q4] 75)
 have T5:=lH (trees_lit w4 [.slice A4 1 q4] ([F.prim 0 4 v .nil].map (fun g => g.flat 0)) rfl (by show 1 <= 1000; omega) (fun j x N hx hN => by
   have hj:j = 0:=by have:=(List.getElem?_eq_some_iff.1 hx).1; simpa using this
   subst hj
   cases hx
   cases hN
   exact t4) #[.slice A4 1 q4] rfl 75)
 replace HS:=lH (HS.out.step hb)
 clear h4 t4 hb n3
 go_wp2_with fail
 refine (rof_g 0 17 [F.prim 0 4 v .nil] (fun g hg => by rw [List.mem_singleton.1 hg]; exact rfl) (by show 1 <= 1000; omega) (by show 1 + 0 <= 1000; omega) _ _ T5.out).mono ?_
 rintro _ w7 ⟨v7,rfl,t7,h7⟩
 obtain ⟨A7,q7,e7,-,-⟩:=t7.slice
 replace e7:v7 = .slice A7 2 q7:=e7
 subst e7
 replace HS:=lH (HS.out.step h7)
 have T7:=lH t7
 clear h7 t7 T5
 go_wp2_with fail
 refine (rleaf_mk 0 6 nm _).mono ?_
 rintro _ w6 ⟨v6,rfl,t6,h6⟩
 obtain ⟨A6,q6,e6,-,-⟩:=t6.slice
 replace e6:v6 = .slice A6 1 q6:=e6
 subst e6
 replace HS:=lH (HS.out.step h6)
 replace T7:=lH (T7.out.since h6)
 have hb:=(Since.refl w6).alloc (.cells #[.slice A6 1 q6,.slice A7 2 q7] 75)
 have T8:=lH (trees_lit w6 [.slice A6 1 q6,.slice A7 2 q7] ([F.prim 0 6 nm .nil,F.cons 0 17 (.prim 0 4 v .nil) .nil].map (fun g => g.flat 0)) rfl (by show 2 <= 1000; omega) (fun j x N hx hN => by
   have hj:j < 2:=by have:=(List.getElem?_eq_some_iff.1 hx).1; simpa using this
   match j,hj with
   | 0,_ => cases hx; cases hN; exact t6
   | 1,_ => cases hx; cases hN; exact T7.out) #[.slice A6 1 q6,.slice A7 2 q7] rfl 75)
 replace HS:=lH (HS.out.step hb)
 clear h6 t6 hb T7
 go_wp2_with fail
 refine (rof_g 0 16 [F.prim 0 6 nm .nil,F.cons 0 17 (.prim 0 4 v .nil) .nil] (fun g hg => by
   simp only [List.mem_cons,List.not_mem_nil,or_false] at hg
   rcases hg with rfl | rfl <;> exact rfl) (by show 2 <= 1000; omega) (by show 1 + (1 + (1 + 0) + 0) <= 1000; omega) _ _ T8.out).mono ?_
 rintro _ w9 ⟨v9,rfl,t9,h9⟩
 obtain ⟨A9,q9,e9,-,-⟩:=t9.slice
 replace e9:v9 = .slice A9 4 q9:=e9
 subst e9
 replace HS:=lH (HS.out.step h9)
 have T9:=lH t9
 clear h9 t9 T8
 go_wp2_with fail
 refine c5.calls0 T9.out ?_
 intro wa ha
 replace HS:=lH (HS.out.step ha)
 clear ha T9
 go_wp2_with fail
 go_ret2
 exact ⟨rfl,HS.out⟩
theorem renc_att (p:Att.A2) (h:Ok1 p):RdT 58 (Atm.attN p) (fun x => #[x]) (.tuple #[.string (encA p),.int .i64 0]):=by
 have hk:=att_is p (ok_num h)
 have hn:=nm_len p.1 (ok_num h)
 have hs:Small (Atm.attN p):=small_att (nmA p.1) p.2 (by omega) (by have:=h.2.2; omega)
 have c4:=rrig_rd _ hs
 rw [is_right hk] at c4
 have hl:=att_len p (ok_num h)
 have h3:=h.2.2
 exact renc_yes _ _ c4 (bytes_root _ _ _ (wr_of hk) (by omega) hk.len)
theorem rencode_mk (p:Att.A2):Mak 23 #[.agg #[.int .i64 p.1,.string p.2]] (encW p):=by
 have c1:=rcheck_rd [p] _ rfl
 unfold encW
 cases h:attOk [p] with
 | true =>
   have hE:attE [p] = 0:=(attE_zero _).2 h
   rw [hE] at c1 ⊢
   rw [if_pos rfl]
   have h1:=(Atm.ok_one p).1 h
   exact renc_good p.1 p.2 (nmA p.1) _ true c1 (fun w x hx => Oid.rencode_yes w x _ hx (Atm.arcs_ok p.1 (ok_num h1)) _ rfl) (renc_att p h1)
 | false =>
   have hE:attE [p] = 11:=by unfold attE; rw [h]; rfl
   rw [hE] at c1 ⊢
   rw [if_neg (by decide)]
   exact renc_bad p.1 p.2 c1
end Atf
namespace Atf
open Att Rw Atm Tlv Tree Strs
def RDecT (s:ByteArray) (C P:Int) (N:List Nd):Prop:=∀ w,Calls Tryz.prog 63 #[.string s] w fun e w' => ∃ tv,e = .returned (.tuple #[tv,.agg #[.int .i64 C,.int .i64 P]]) /\ TreeS w' tv N /\ Since w w'
set_option maxHeartbeats 4000000 in
theorem rdec_1 (s:ByteArray) (C P:Int) (hC:(C != 0) = true) (N:List Nd) (d1:RDecT s C P N):Mak 25 #[.string s] (decT ((0,⟨#[]⟩),5)):=by
 intro w
 have hr:=lH (show HR w w.heap.size #[.int .i64 0,.string ⟨#[]⟩] 35 (w.alloc (.cells #[.int .i64 0,.string ⟨#[]⟩] 35)) from ⟨heap_alloc_new w _⟩)
 have HS:=lH ((Since.refl w).alloc (.cells #[.int .i64 0,.string ⟨#[]⟩] 35))
 go_enter Tryz.func25,Tryz.ntmps25
 go_wp2_with fail
 refine (d1 _).mono ?_
 rintro _ w1 ⟨u1,rfl,hU,h1⟩
 obtain ⟨A1,q1,e1,-,-⟩:=hU.slice
 subst e1
 replace HS:=lH (HS.out.step h1)
 replace hr:=lH (hr.out.step h1)
 have r1:(w1.alloc (.cells #[.int .i64 0,.int .i64 0] 65)).heap[w1.heap.size]? = some (.cells #[.int .i64 0,.int .i64 0] 65 (0,0)):=heap_alloc_new w1 _
 have hb:=lH (hb_row (K:=KT) (C':=#[.int .i64 C,.int .i64 P]) ((Since.refl w1).alloc _) (Nat.le_refl _) trivial r1)
 have y0:=hb.out.cell 0 _ rfl
 replace HS:=lH (HS.out.step hb.out.since)
 replace hr:=lH (hr.out.step hb.out.since)
 have HU:=lH (hU.since hb.out.since)
 obtain ⟨n0,hn0⟩:∃ n,n = N.length:=⟨_,rfl⟩
 rw [<- hn0] at HU ⊢
 have HN0:=lH hn0
 clear hU h1 hn0
 go_wp2_with (first
   | (refine RwL.at_store (ty:=65) rfl ?_; refine wpList_store_row rfl 65 _ _ rfl w1.heap.size #[.int .i64 C,.int .i64 P] (by rfl) (by rfl) _ _ r1 (f2_info C P) rfl (f2_one C P) ?_; generalize hw2:(w1.alloc (.cells #[.int .i64 0,.int .i64 0] 65)).setRow w1.heap.size #[.int .i64 C,.int .i64 P] = w2 at HS hr HU y0 ⊢; clear hw2 r1 hb)
   | (refine RwL.at_store (ty:=35) rfl ?_; refine wpList_store_row rfl 35 _ _ rfl w.heap.size #[.int .i64 0,.string ⟨#[]⟩] (by rfl) (by rfl) _ _ hr.out.row (a2_info 0 ⟨#[]⟩) rfl (a2_one 0 ⟨#[]⟩) ?_))
 exact bodyPost_ret (v:=.tuple #[.agg #[.int .i64 0,.string ⟨#[]⟩],.int .i64 5]) (results_cell_tmp2 Tryz.results25 _ _ _ _ _ _ _ _ rfl rfl (setRow_heap _ _ _ _ _ _ hr.out.row) Tryz.underlying35 rfl (a2_info 0 ⟨#[]⟩)) rfl ⟨rfl,below_setRow HS.out (Nat.le_refl _) _⟩
set_option maxHeartbeats 4000000 in
theorem rdec_2 (s:ByteArray) (C P:Int) (hC:(C != 0) = false) (N:List Nd) (h4:N.length ≠ 4) (d1:RDecT s C P N):Mak 25 #[.string s] (decT ((0,⟨#[]⟩),5)):=by
 intro w
 have hr:=lH (show HR w w.heap.size #[.int .i64 0,.string ⟨#[]⟩] 35 (w.alloc (.cells #[.int .i64 0,.string ⟨#[]⟩] 35)) from ⟨heap_alloc_new w _⟩)
 have HS:=lH ((Since.refl w).alloc (.cells #[.int .i64 0,.string ⟨#[]⟩] 35))
 go_enter Tryz.func25,Tryz.ntmps25
 go_wp2_with fail
 refine (d1 _).mono ?_
 rintro _ w1 ⟨u1,rfl,hU,h1⟩
 obtain ⟨A1,q1,e1,-,-⟩:=hU.slice
 subst e1
 replace HS:=lH (HS.out.step h1)
 replace hr:=lH (hr.out.step h1)
 have r1:(w1.alloc (.cells #[.int .i64 0,.int .i64 0] 65)).heap[w1.heap.size]? = some (.cells #[.int .i64 0,.int .i64 0] 65 (0,0)):=heap_alloc_new w1 _
 have hb:=lH (hb_row (K:=KT) (C':=#[.int .i64 C,.int .i64 P]) ((Since.refl w1).alloc _) (Nat.le_refl _) trivial r1)
 have y0:=hb.out.cell 0 _ rfl
 replace HS:=lH (HS.out.step hb.out.since)
 replace hr:=lH (hr.out.step hb.out.since)
 have HU:=lH (hU.since hb.out.since)
 obtain ⟨n0,hn0⟩:∃ n,n = N.length:=⟨_,rfl⟩
 rw [<- hn0] at HU ⊢
 have HN0:=lH hn0
 clear hU h1 hn0
 have t9:((n0:Int) != 4) = true:=bne_iff_ne.2 (by have:=HN0.out; omega)
 go_wp2_with (first
   | (refine RwL.at_store (ty:=65) rfl ?_; refine wpList_store_row rfl 65 _ _ rfl w1.heap.size #[.int .i64 C,.int .i64 P] (by rfl) (by rfl) _ _ r1 (f2_info C P) rfl (f2_one C P) ?_; generalize hw2:(w1.alloc (.cells #[.int .i64 0,.int .i64 0] 65)).setRow w1.heap.size #[.int .i64 C,.int .i64 P] = w2 at HS hr HU y0 ⊢; clear hw2 r1 hb)
   | (refine RwL.at_store (ty:=35) rfl ?_; refine wpList_store_row rfl 35 _ _ rfl w.heap.size #[.int .i64 0,.string ⟨#[]⟩] (by rfl) (by rfl) _ _ hr.out.row (a2_info 0 ⟨#[]⟩) rfl (a2_one 0 ⟨#[]⟩) ?_))
 exact bodyPost_ret (v:=.tuple #[.agg #[.int .i64 0,.string ⟨#[]⟩],.int .i64 5]) (results_cell_tmp2 Tryz.results25 _ _ _ _ _ _ _ _ rfl rfl (setRow_heap _ _ _ _ _ _ hr.out.row) Tryz.underlying35 rfl (a2_info 0 ⟨#[]⟩)) rfl ⟨rfl,below_setRow HS.out (Nat.le_refl _) _⟩
set_option maxHeartbeats 4000000 in
theorem rdec_3 (s:ByteArray) (C P:Int) (hC:(C != 0) = false) (N:List Nd) (h4:N.length = 4) (d1:RDecT s C P N) (x1 x3:Nd) (hx1:N[1]? = some x1) (hx3:N[3]? = some x3) (xs:List Int) (c2:MkI 64 #[.string x1.d] xs false):Mak 25 #[.string s] (decT ((0,⟨#[]⟩),5)):=by
 intro w
 have hr:=lH (show HR w w.heap.size #[.int .i64 0,.string ⟨#[]⟩] 35 (w.alloc (.cells #[.int .i64 0,.string ⟨#[]⟩] 35)) from ⟨heap_alloc_new w _⟩)
 have HS:=lH ((Since.refl w).alloc (.cells #[.int .i64 0,.string ⟨#[]⟩] 35))
 go_enter Tryz.func25,Tryz.ntmps25
 go_wp2_with fail
 refine (d1 _).mono ?_
 rintro _ w1 ⟨u1,rfl,hU,h1⟩
 obtain ⟨A1,q1,e1,-,-⟩:=hU.slice
 subst e1
 replace HS:=lH (HS.out.step h1)
 replace hr:=lH (hr.out.step h1)
 have r1:(w1.alloc (.cells #[.int .i64 0,.int .i64 0] 65)).heap[w1.heap.size]? = some (.cells #[.int .i64 0,.int .i64 0] 65 (0,0)):=heap_alloc_new w1 _
 have hb:=lH (hb_row (K:=KT) (C':=#[.int .i64 C,.int .i64 P]) ((Since.refl w1).alloc _) (Nat.le_refl _) trivial r1)
 have y0:=hb.out.cell 0 _ rfl
 replace HS:=lH (HS.out.step hb.out.since)
 replace hr:=lH (hr.out.step hb.out.since)
 have HU:=lH (hU.since hb.out.since)
 obtain ⟨n0,hn0⟩:∃ n,n = N.length:=⟨_,rfl⟩
 rw [<- hn0] at HU ⊢
 have HN0:=lH hn0
 clear hU h1 hn0
 obtain rfl:n0 = 4:=by rw [HN0.out]; exact h4
 have t9:((4:Int) != 4) = false:=rfl
 go_wp2_with (refine RwL.at_store (ty:=65) rfl ?_; refine wpList_store_row rfl 65 _ _ rfl w1.heap.size #[.int .i64 C,.int .i64 P] (by rfl) (by rfl) _ _ r1 (f2_info C P) rfl (f2_one C P) ?_; generalize hw2:(w1.alloc (.cells #[.int .i64 0,.int .i64 0] 65)).setRow w1.heap.size #[.int .i64 C,.int .i64 P] = w2 at HS hr HU y0 ⊢; clear hw2 r1 hb; obtain ⟨b,o,ea,-,hlt,m1⟩:=at_data HU.out 1 x1 hx1; subst ea)
 refine (c2 w2).mono ?_
 rintro _ w4 ⟨va,rfl,hva,h4'⟩
 obtain ⟨Aa,qa,ea,-,-⟩:=hva.slice
 subst ea
 replace HS:=lH (HS.out.step h4')
 replace hr:=lH (hr.out.step h4')
 have HVA:=lH hva
 obtain ⟨b',o',hbo,-,hlt',m3⟩:=at_data (HU.out.since h4') 3 x3 hx3
 cases hbo
 have HD2:=lH (And.intro hlt' m3)
 clear hva h4' HU hlt hlt' m3 m1 y0
 clear HD2 HVA
 go_wp2_with (refine RwL.at_store (ty:=35) rfl ?_; refine wpList_store_row rfl 35 _ _ rfl w.heap.size #[.int .i64 0,.string ⟨#[]⟩] (by rfl) (by rfl) _ _ hr.out.row (a2_info 0 ⟨#[]⟩) rfl (a2_one 0 ⟨#[]⟩) ?_)
 exact bodyPost_ret (v:=.tuple #[.agg #[.int .i64 0,.string ⟨#[]⟩],.int .i64 5]) (results_cell_tmp2 Tryz.results25 _ _ _ _ _ _ _ _ rfl rfl (setRow_heap _ _ _ _ _ _ hr.out.row) Tryz.underlying35 rfl (a2_info 0 ⟨#[]⟩)) rfl ⟨rfl,below_setRow HS.out (Nat.le_refl _) _⟩
structure KE (wr:World) (ba oa m b o:Nat) (x:Int) (d:ByteArray):Prop where
 lt1:ba < wr.heap.size
 lt2:b < wr.heap.size
 c1:wr.cell? ⟨ba,oa + m,none⟩ = some (.int .i64 x)
 c2:wr.cell? ⟨b,o + 15 + 3,none⟩ = some (.string d)
theorem KE.at_ {wr W:World} {ba oa m b o:Nat} {x:Int} {d:ByteArray} (h:KE wr ba oa m b o x d) (hs:Since wr W):W.cell? ⟨ba,oa + m,none⟩ = some (.int .i64 x) /\ W.cell? ⟨b,o + 15 + 3,none⟩ = some (.string d) :=
 ⟨(Below.cell hs (p:=⟨ba,oa + m,none⟩) h.lt1).trans h.c1,(Below.cell hs (p:=⟨b,o + 15 + 3,none⟩) h.lt2).trans h.c2⟩
set_option maxHeartbeats 8000000 in
theorem rdec_4 (s:ByteArray) (C P:Int) (hC:(C != 0) = false) (N:List Nd) (h4:N.length = 4) (d1:RDecT s C P N) (x1 x3:Nd) (hx1:N[1]? = some x1) (hx3:N[3]? = some x3) (xs:List Int) (c2:MkI 64 #[.string x1.d] xs true) (m:Nat) (hxl:xs.length = m + 1) (hm:m <= 1000) (x:Int) (hx:xs[m]? = some x) (d3:ByteArray) (hd3:x3.d = d3) (X:ByteArray) (E:Int) (c4:Mak 23 #[.agg #[.int .i64 x,.string d3]] (.tuple #[.string X,.int .i64 E])) (R:Att.A2 × Int) (hR:((E != 0) = true /\ R = ((0,⟨#[]⟩),5)) ∨ ((E != 0) = false /\ (X.toList == s.toList) = false /\ R = ((0,⟨#[]⟩),5)) ∨ ((E != 0) = false /\ (X.toList == s.toList) = true /\ R = ((x,d3),0))):Mak 25 #[.string s] (decT R):=by
 have HRX:=lH hR
 clear hR
 intro w
 have hr:=lH (show HR w w.heap.size #[.int .i64 0,.string ⟨#[]⟩] 35 (w.alloc (.cells #[.int .i64 0,.string ⟨#[]⟩] 35)) from ⟨heap_alloc_new w _⟩)
 have HS:=lH ((Since.refl w).alloc (.cells #[.int .i64 0,.string ⟨#[]⟩] 35))
 go_enter Tryz.func25,Tryz.ntmps25
 go_wp2_with fail
 refine (d1 _).mono ?_
 rintro _ w1 ⟨u1,rfl,hU,h1⟩
 obtain ⟨A1,q1,e1,-,-⟩:=hU.slice
 subst e1
 replace HS:=lH (HS.out.step h1)
 replace hr:=lH (hr.out.step h1)
 have r1:(w1.alloc (.cells #[.int .i64 0,.int .i64 0] 65)).heap[w1.heap.size]? = some (.cells #[.int .i64 0,.int .i64 0] 65 (0,0)):=heap_alloc_new w1 _
 have hb:=lH (hb_row (K:=KT) (C':=#[.int .i64 C,.int .i64 P]) ((Since.refl w1).alloc _) (Nat.le_refl _) trivial r1)
 have y0:=hb.out.cell 0 _ rfl
 replace HS:=lH (HS.out.step hb.out.since)
 replace hr:=lH (hr.out.step hb.out.since)
 have HU:=lH (hU.since hb.out.since)
 obtain ⟨n0,hn0⟩:∃ n,n = N.length:=⟨_,rfl⟩
 rw [<- hn0] at HU ⊢
 have HN0:=lH hn0
 clear hU h1 hn0
 obtain rfl:n0 = 4:=by rw [HN0.out]; exact h4
 have t9:((4:Int) != 4) = false:=rfl
 go_wp2_with (refine RwL.at_store (ty:=65) rfl ?_; refine wpList_store_row rfl 65 _ _ rfl w1.heap.size #[.int .i64 C,.int .i64 P] (by rfl) (by rfl) _ _ r1 (f2_info C P) rfl (f2_one C P) ?_; generalize hw2:(w1.alloc (.cells #[.int .i64 0,.int .i64 0] 65)).setRow w1.heap.size #[.int .i64 C,.int .i64 P] = w2 at HS hr HU y0 ⊢; clear hw2 r1 hb; obtain ⟨b,o,ea,-,hlt,m1⟩:=at_data HU.out 1 x1 hx1; subst ea)
 refine (c2 w2).mono ?_
 rintro _ w4 ⟨va,rfl,hva,h4'⟩
 obtain ⟨Aa,qa,ea,-,-⟩:=hva.slice
 subst ea
 replace HS:=lH (HS.out.step h4')
 replace hr:=lH (hr.out.step h4')
 have HVA:=lH hva
 obtain ⟨b',o',hbo,-,hlt',m3⟩:=at_data (HU.out.since h4') 3 x3 hx3
 cases hbo
 have HD2:=lH (And.intro hlt' m3)
 clear hva h4' HU hlt hlt' m3 m1 y0
 obtain ⟨ba,oa,ca,hva,f1,f2,f3,f4⟩:=HVA.out.form (by omega)
 obtain ⟨rfl,-,rfl⟩:=Value.slice.inj hva
 have f8:=f4 m (by omega)
 rw [show xs.getD m 0 = x by rw [List.getD_eq_getElem?_getD,hx]; rfl] at f8
 have HKE:=lH (show KE w4 ba oa m b o x d3 from ⟨f3,HD2.out.1,f8,by rw [<- hd3]; exact HD2.out.2⟩)
 obtain ⟨nx,hnx⟩:∃ n,n = xs.length:=⟨_,rfl⟩
 rw [<- hnx] at hxl ⊢
 have i0:(0:Int) <= (m:Int):=by omega
 have i1:(m:Int) < (nx:Int):=by omega
 have e8:IntKind.i64.wrap ((nx:Int) - 1) = (m:Int):=by rw [IntKind.wrap_i64]; omega
 have hlw:w.heap.size < w4.heap.size:=(Array.getElem?_eq_some_iff.1 hr.out.row).1
 clear hva f1 f2 f3 f4 f8 HD2 HVA hnx hxl
 go_wp2_with fail
 have HB:Hid (Since w4 w4):=lH (Since.refl w4)
 refine RegW.start (fun W' => Hid (Since w4 W') /\ W'.cell? ⟨ba,oa + m,none⟩ = some (.int .i64 x) /\ W'.cell? ⟨b,o + 15 + 3,none⟩ = some (.string d3)) 12 (by kernel_rfl) ⟨lH (HB.out.step (drew_s _)),HKE.out.at_ (HB.out.step (drew_s _))⟩ (fun hHeld => ?_)
 replace HB:=lH (HB.out.step (drew_s w4))
 obtain ⟨wa,hwa⟩:∃ W,W = w4.drew:=⟨_,rfl⟩
 rw [<- hwa] at HB hHeld ⊢
 clear hwa
 refine RegW.take (i:=0) (v:=?_) rfl (by kernel_rfl) (by kernel_rfl) (by kernel_rfl) (by kernel_rfl) (fun _ _ _ h => h) (Or.inl ⟨by kernel_rfl, ?_⟩) (by assumption) ?_
 rotate_left
 · intro w hSw
   go_split_ands
   go_simp
   try with_reducible rfl
 try simp only [Act.put,List.setIfInBounds_toArray]
 refine RegW.take (i:=1) (v:=?_) rfl (by kernel_rfl) (by kernel_rfl) (by kernel_rfl) (by kernel_rfl) (fun _ _ _ h => h) (Or.inl ⟨by kernel_rfl, ?_⟩) (by assumption) ?_
 rotate_left
 · intro w hSw
   go_split_ands
   go_simp
   try with_reducible rfl
 try simp only [Act.put]
 refine RegW.take (i:=2) (v:=?_) rfl (by kernel_rfl) (by kernel_rfl) (by kernel_rfl) (by kernel_rfl) (fun _ _ _ h => h) (Or.inl ⟨by kernel_rfl, ?_⟩) (by assumption) ?_
 rotate_left
 · intro w hSw
   go_split_ands
   go_simp
   try with_reducible rfl
 try simp only [Act.put]
 refine RegW.take (i:=3) (v:=?_) rfl (by kernel_rfl) (by kernel_rfl) (by kernel_rfl) (by kernel_rfl) (fun _ _ _ h => h) (Or.inl ⟨by kernel_rfl, ?_⟩) (by assumption) ?_
 rotate_left
 · intro w hSw
   go_split_ands
   go_simp
   try with_reducible rfl
 try simp only [Act.put]
 refine RegW.take (i:=4) (v:=?_) rfl (by kernel_rfl) (by kernel_rfl) (by kernel_rfl) (by kernel_rfl) (fun _ _ _ h => h) (Or.inl ⟨by kernel_rfl, ?_⟩) (by assumption) ?_
 rotate_left
 · intro w hSw
   go_split_ands
   go_simp
   try with_reducible rfl
 try simp only [Act.put]
 refine RegW.take (i:=5) (v:=?_) rfl (by kernel_rfl) (by kernel_rfl) (by kernel_rfl) (by kernel_rfl) (fun _ _ _ h => h) (Or.inl ⟨by kernel_rfl, ?_⟩) (by assumption) ?_
 rotate_left
 · intro w hSw
   go_split_ands
   go_simp
   try with_reducible rfl
 try simp only [Act.put]
 refine RegW.take (i:=6) (v:=?_) rfl (by kernel_rfl) (by kernel_rfl) (by kernel_rfl) (by kernel_rfl) (fun _ _ _ h => h) (Or.inl ⟨by kernel_rfl, ?_⟩) (by assumption) ?_
 rotate_left
 · intro w hSw
   go_split_ands
   go_simp
   try with_reducible rfl
 try simp only [Act.put]
 refine RegW.take (i:=7) (v:=?_) rfl (by kernel_rfl) (by kernel_rfl) (by kernel_rfl) (by kernel_rfl) (fun _ _ _ h => h) (Or.inl ⟨by kernel_rfl, ?_⟩) (by assumption) ?_
 rotate_left
 · intro w hSw
   go_split_ands
   go_simp
   try with_reducible rfl
 try simp only [Act.put]
 refine RegW.take (i:=8) (v:=?_) rfl (by kernel_rfl) (by kernel_rfl) (by kernel_rfl) (by kernel_rfl) (fun _ _ _ h => h) (Or.inl ⟨by kernel_rfl, ?_⟩) (by assumption) ?_
 rotate_left
 · intro w hSw
   go_split_ands
   go_simp
   try with_reducible rfl
 try simp only [Act.put]
 refine RegW.take (i:=9) (v:=?_) rfl (by kernel_rfl) (by kernel_rfl) (by kernel_rfl) (by kernel_rfl) (fun _ _ _ h => h) (Or.inl ⟨by kernel_rfl, ?_⟩) (by assumption) ?_
 rotate_left
 · intro w hSw
   go_split_ands
   go_simp
   try with_reducible rfl
 try simp only [Act.put]
 refine RegW.take (i:=10) (v:=?_) rfl (by kernel_rfl) (by kernel_rfl) (by kernel_rfl) (by kernel_rfl) (fun _ _ _ h => h) (Or.inl ⟨by kernel_rfl, ?_⟩) (by assumption) ?_
 rotate_left
 · intro w hSw
   go_split_ands
   go_simp
   try with_reducible rfl
 try simp only [Act.put]
 have hR:=HRX.out
 have hlg:w.heap.size < wa.heap.size:=Nat.lt_of_lt_of_le hlw (Below.size HB.out)
 refine RegW.only (i:=11) rfl (by kernel_rfl) (fun K hK => ?_)
 go_simp
 refine hK.out _ _ ⟨lH (HB.out.alloc (.cells #[.int .i64 0,.string ⟨#[]⟩] 35)),HKE.out.at_ (HB.out.alloc _)⟩ (fun hHeld => ?_)
 clear hK K
 try simp only [Act.put,List.setIfInBounds_toArray,List.set_cons_zero,List.set_cons_succ]
 have r8:(wa.alloc (.cells #[.int .i64 0,.string ⟨#[]⟩] 35)).heap[wa.heap.size]? = some (.cells #[.int .i64 0,.string ⟨#[]⟩] 35 (0,0)):=heap_alloc_new wa _
 replace HB:=lH (HB.out.alloc (.cells #[.int .i64 0,.string ⟨#[]⟩] 35))
 replace HS:=lH (HS.out.step HB.out)
 replace hr:=lH (hr.out.step HB.out)
 obtain ⟨g8,hg8⟩:∃ g,g = wa.heap.size:=⟨_,rfl⟩
 rw [<- hg8] at r8 hlg ⊢
 refine RegW.last rfl (by kernel_rfl) (by kernel_rfl) ?_
 clear hHeld hg8
 generalize wa.alloc (.cells #[.int .i64 0,.string ⟨#[]⟩] 35) = ws at HS hr HB r8 ⊢
 have hg:Hid (HR w g8 #[.int .i64 x,.string d3] 35 (ws.setRow g8 #[.int .i64 x,.string d3])):=lH ⟨setRow_heap _ _ _ _ _ _ r8⟩
 have hr':Hid (HR w w.heap.size #[.int .i64 0,.string ⟨#[]⟩] 35 (ws.setRow g8 #[.int .i64 x,.string d3])):=lH ⟨(setRow_other _ _ _ _ (by omega)).trans hr.out.row⟩
 have HS':Hid (Since w (ws.setRow g8 #[.int .i64 x,.string d3])):=lH (below_setRow HS.out (by omega) _)
 refine wpList_store_row rfl 35 _ _ rfl g8 #[.int .i64 x,.string d3] (by rfl) (by rfl) _ _ r8 (a2_info x d3) rfl (a2_one x d3) ?_
 replace HS:=HS'
 replace hr:=hr'
 generalize ws.setRow g8 #[.int .i64 x,.string d3] = w8 at HS hr hg ⊢
 clear r8 HS' hr'
 have k0:=hr_cell hg.out 0 _ rfl
 have k1:=hr_cell hg.out 1 _ rfl
 replace k0:w8.cell? ⟨g8,0,none⟩ = some (.int .i64 x):=k0
 replace k1:w8.cell? ⟨g8,1,none⟩ = some (.string d3):=k1
 go_wp2_with fail
 refine c4.calls0 ?_
 intro w9 h9
 replace HS:=lH (HS.out.step h9)
 replace hr:=lH (hr.out.step h9)
 replace hg:=lH (hg.out.step h9)
 clear k0 k1 h9
 have k0:=hr_cell hg.out 0 _ rfl
 have k1:=hr_cell hg.out 1 _ rfl
 replace k0:w9.cell? ⟨g8,0,none⟩ = some (.int .i64 x):=k0
 replace k1:w9.cell? ⟨g8,1,none⟩ = some (.string d3):=k1
 have HRR:=lH hR
 rcases hR with ⟨t1,rfl⟩ | ⟨t1,t2,rfl⟩ | ⟨t1,t2,rfl⟩
 · clear HRR k0 k1
   go_wp2_with (refine RwL.at_store (ty:=35) rfl ?_; refine wpList_store_row rfl 35 _ _ rfl w.heap.size #[.int .i64 0,.string ⟨#[]⟩] (by rfl) (by rfl) _ _ hr.out.row (a2_info 0 ⟨#[]⟩) rfl (a2_one 0 ⟨#[]⟩) ?_)
   exact bodyPost_ret (v:=.tuple #[.agg #[.int .i64 0,.string ⟨#[]⟩],.int .i64 5]) (results_cell_tmp2 Tryz.results25 _ _ _ _ _ _ _ _ rfl rfl (setRow_heap _ _ _ _ _ _ hr.out.row) Tryz.underlying35 rfl (a2_info 0 ⟨#[]⟩)) rfl ⟨rfl,below_setRow HS.out (Nat.le_refl _) _⟩
 · clear HRR k0 k1
   go_wp2_with (refine RwL.at_store (ty:=35) rfl ?_; refine wpList_store_row rfl 35 _ _ rfl w.heap.size #[.int .i64 0,.string ⟨#[]⟩] (by rfl) (by rfl) _ _ hr.out.row (a2_info 0 ⟨#[]⟩) rfl (a2_one 0 ⟨#[]⟩) ?_)
   exact bodyPost_ret (v:=.tuple #[.agg #[.int .i64 0,.string ⟨#[]⟩],.int .i64 5]) (results_cell_tmp2 Tryz.results25 _ _ _ _ _ _ _ _ rfl rfl (setRow_heap _ _ _ _ _ _ hr.out.row) Tryz.underlying35 rfl (a2_info 0 ⟨#[]⟩)) rfl ⟨rfl,below_setRow HS.out (Nat.le_refl _) _⟩
 · clear HRR
   go_wp2_with (refine RwL.at_store (ty:=35) rfl ?_; refine wpList_store_row rfl 35 _ _ rfl w.heap.size #[.int .i64 x,.string d3] (by rfl) (by rfl) _ _ hr.out.row (a2_info x d3) rfl (a2_one x d3) ?_)
   exact bodyPost_ret (v:=.tuple #[.agg #[.int .i64 x,.string d3],.int .i64 0]) (results_cell_tmp2 Tryz.results25 _ _ _ _ _ _ _ _ rfl rfl (setRow_heap _ _ _ _ _ _ hr.out.row) Tryz.underlying35 rfl (a2_info x d3)) rfl ⟨rfl,below_setRow HS.out (Nat.le_refl _) _⟩
theorem rdecode_mk (s:ByteArray) (hm:s.size <= 65535):Mak 25 #[.string s] (decT (decV s)):=by
 cases ht:top rightB s with
 | error z =>
   obtain ⟨c,q⟩:=z
   have hc:=(top_err_ok ht).1
   have d1:RDecT s (c:Int) (q:Int) []:=fun w => rdec_u s c q _ _ (show topV s = (c,q,[],[]) by unfold topV; rw [ht]) w
   rw [decV_no s (fun ⟨p,h1,h2⟩ => by rw [yes_top h1 h2] at ht; cases ht)]
   exact rdec_1 s _ _ (bne_iff_ne.2 (by omega)) [] d1
 | ok g =>
   have d1:RDecT s 0 0 (g.flat 0):=fun w => rdec_u s 0 0 _ _ (show topV s = (0,0,g.flat 0,g.spans 0) by unfold topV; rw [ht]) w
   by_cases h4:(g.flat 0).length = 4
   case neg =>
     rw [decV_no s (fun ⟨p,h1,h2⟩ => by
       rw [yes_top h1 h2] at ht
       cases ht
       exact h4 rfl)]
     exact rdec_2 s _ _ rfl _ h4 d1
   obtain ⟨x1,a1⟩:∃ x,(g.flat 0)[1]? = some x:=⟨_,List.getElem?_eq_getElem (by omega)⟩
   obtain ⟨x3,a3⟩:∃ x,(g.flat 0)[3]? = some x:=⟨_,List.getElem?_eq_getElem (by omega)⟩
   obtain ⟨hg,he⟩:=top_is ht
   have hel:g.enc.length = s.size:=by rw [he]; rfl
   have hx1:=size_le g 0 x1 (List.mem_of_getElem? a1)
   have c2:=Oid.rdecode_mk x1.d (by omega) _ _ rfl rfl
   have hyes:∀ p,Ok1 p -> encA p = s -> Oid.decB x1.d.data.toList = true /\ Oid.decL x1.d.data.toList = Atm.arcsA p.1 /\ x3.d = p.2:=fun p h1 h2 => by
     rw [yes_top h1 h2] at ht
     cases ht
     rw [(att_nodes p).1] at a1
     rw [(att_nodes p).2] at a3
     cases a1
     cases a3
     obtain ⟨g1,g2⟩:=nm_dec p.1 (ok_num h1)
     exact ⟨g1,g2,rfl⟩
   cases hu:Oid.decB x1.d.data.toList with
   | false =>
     rw [decV_no s (fun ⟨p,h1,h2⟩ => by rw [(hyes p h1 h2).1] at hu; cases hu)]
     rw [hu] at c2
     exact rdec_3 s _ _ rfl _ h4 d1 x1 x3 a1 a3 _ c2
   | true =>
     rw [hu] at c2
     have hok:=(Oid.ok_iff _).1 ((Oid.dec_iff x1.d.data.toList _).1 ⟨hu,rfl⟩).1
     obtain ⟨m,hml⟩:∃ m,(Oid.decL x1.d.data.toList).length = m + 1:=⟨(Oid.decL x1.d.data.toList).length - 1,by omega⟩
     obtain ⟨x,hx⟩:∃ x,(Oid.decL x1.d.data.toList)[m]? = some x:=⟨_,List.getElem?_eq_getElem (by omega)⟩
     have c4:=rencode_mk (x,x3.d)
     unfold encW at c4
     have hp:∀ p,Ok1 p -> encA p = s -> p = (x,x3.d):=fun p h1 h2 => by
       obtain ⟨-,g2,g3⟩:=hyes p h1 h2
       rw [g2] at hx hml
       have h8:m = 8:=by have h9:(Atm.arcsA p.1).length = 9:=rfl; omega
       subst h8
       exact Prod.ext (Option.some.inj hx) g3.symm
     refine rdec_4 s _ _ rfl _ h4 d1 x1 x3 a1 a3 _ c2 m hml (by omega) x hx x3.d rfl _ _ c4 _ ?_
     by_cases hk:attOk [(x,x3.d)] = true
     · have hE:attE [(x,x3.d)] = 0:=(attE_zero _).2 hk
       rw [hE,if_pos hk]
       by_cases hs:encA (x,x3.d) = s
       · refine Or.inr (Or.inr ⟨rfl,by rw [hs]; exact beq_self_eq_true _, ?_⟩)
         rw [<- hs]
         exact decV_yes _ ((Atm.ok_one _).1 hk)
       · refine Or.inr (Or.inl ⟨rfl,str_ne_f hs,decV_no s fun ⟨p,h1,h2⟩ => hs ?_⟩)
         rw [<- hp p h1 h2]
         exact h2
     · refine Or.inl ⟨bne_iff_ne.2 fun h9 => hk ((attE_zero _).1 h9),decV_no s fun ⟨p,h1,h2⟩ => hk ?_⟩
       rw [<- hp p h1 h2]
       exact (Atm.ok_one p).2 h1
end Atf
end Go.Proofs.YtpanhhjkecebkaaGreat
