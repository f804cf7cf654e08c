import Derived.Test.YtpanhhjkecebkaaGreatPt16
import Derived.Test.YtpanhhjkecebkaaGreatPt31
import Derived.Test.YtpanhhjkecebkaaGreatPt51
set_option maxRecDepth 100000
namespace Go.Proofs.YtpanhhjkecebkaaGreat
open Go.RowKit
namespace Atf
open Att
def KN (g:Nat) (t:Int) (w:World):Prop:=w.cell? ⟨g,0,none⟩ = some (.int .i64 t) /\ g < w.heap.size
instance (g:Nat) (t:Int):Kp (KN g t):=⟨fun h hb => ⟨(hb.cell (p:=⟨g,0,none⟩) h.2).trans h.1,Nat.lt_of_lt_of_le h.2 hb.size⟩⟩
end Atf
namespace Atf
open Att
end Atf
end Go.Proofs.YtpanhhjkecebkaaGreat
set_option maxRecDepth 100000
namespace Go.Proofs.YtpanhhjkecebkaaGreat
open Go.RowKit
namespace Pk
open Tlv Tree Strs Rw
theorem slr_kept {W W':World} {k n:Nat} {v:Value} {cs:List Value} (h:SlR W k v n cs) (hb:∀ b,b < W.heap.size -> W'.heap[b]? = W.heap[b]?):SlR W' k v n cs:=by
 obtain ⟨hl,A,c,rfl,h1,h2,h3⟩:=h;refine ⟨hl,A,c,rfl,h1,h2, ?_⟩;rcases h3 with h3 | ⟨b,o,rfl,hlt,hc⟩
 · exact Or.inl h3
 · refine Or.inr ⟨b,o,rfl, ?_,fun i u hu => ?_⟩
   · have h6:=Array.getElem?_eq_getElem hlt;rw [<- hb b hlt] at h6;exact (Array.getElem?_eq_some_iff.1 h6).1
   · have h7:=hc i u hu;unfold World.cell? at h7 ⊢;rw [hb b hlt];exact h7
theorem tree_kept {W W':World} {v:Value} {N:List Nd} (h:TreeS W v N) (hb:∀ b,b < W.heap.size -> W'.heap[b]? = W.heap[b]?):TreeS W' v N:=by
 obtain ⟨ns,⟨h1,h2⟩,h3⟩:=h;exact ⟨ns,⟨slr_kept h1 hb,fun x hx => slr_kept (h2 x hx) hb⟩,h3⟩
theorem ats_ne {gs:List F} (h:gs ≠ []):atsF gs = .cons 2 0 (join gs) .nil:=by
 cases gs with
 | nil => exact absurd rfl h
 | cons a l => rfl
theorem TRow.lit (w:World) (xs:List Value) (Ns:List (List Nd)) (n:Nat) (hx:xs.length = n) (hl:xs.length = Ns.length) (hn:n <= 1000) (h:∀ (j:Nat) x N,xs[j]? = some x -> Ns[j]? = some N -> TreeS w x N) (C:Array Value) (hC:C = xs.toArray) :
   TRow w (w.alloc (.cells C 75)) (.slice (some ⟨w.heap.size,0,none⟩) n n) xs Ns:=by
 subst hC;subst hx;refine ⟨⟨fun r hr => ?_,by simp⟩,hl,fun j x N hx hN W' hW => tree_kept (h j x N hx hN) fun b hb => ?_⟩
 · rw [List.mem_singleton.1 hr];exact ⟨by simp,.inr ⟨w.heap.size,xs.length,xs.toArray,rfl,Nat.le_refl _,heap_alloc_new w _,Nat.le_refl _,by unfold maxLen; omega,by simp,by simp⟩⟩
 · rw [hW.block b (by simp; omega) (by intro e; have h9:=Option.some.inj (show some b = some w.heap.size from e); omega)];exact heap_alloc_old _ _ hb
set_option maxHeartbeats 16000000 in
theorem rmade_5 (xs ps:List Int) (key attrs nm:ByteArray) (pt:Nat) (pb:ByteArray) (c1:∀ w v,IntsS w v xs -> Calls Tryz.prog 55 #[v] w fun e w' => e = .returned (.tuple #[.string nm,.bool true]) /\ Since w w') (hp:RParE ps pt pb) (C P:Int) (hC:(C != 0) = false) (L:List ByteArray) (hm:L.length <= 1000) (d1:PcR 48 attrs C P L) (dD:∀ x ∈ L,RDecT x 0 0 ((gOf x).flat 0)) (hg:(∀ g ∈ L.map gOf,single g) /\ (join (L.map gOf)).cnt <= 900) (q:Bool) (cR:RdT 104 (pkN nm pt pb key (L.map gOf)) (fun v => #[v]) (.bool q)):RdM 67 xs ps key attrs (pkN nm pt pb key (L.map gOf)) q:=by
 have HDD:=lH dD;have HMM:=lH hm;have HGG:=lH hg;have HCR:=lH cR;clear dD hm hg cR;intro w a b ha hb;obtain ⟨A,c,rfl,-,-⟩:=ha.slice;obtain ⟨B,d,rfl,-,-⟩:=hb.slice;obtain ⟨n,hn⟩:∃ n,n = xs.length:=⟨_,rfl⟩
 obtain ⟨m,hm⟩:∃ n,n = ps.length:=⟨_,rfl⟩
 rw [<- hn] at ha ⊢;rw [<- hm] at hb ⊢;have hs0:=(Since.refl w).alloc (.cells #[.slice A n c,.slice B m d,.string key,.string attrs] 46);have HX:=lH (SlR.since ha hs0);have HP:=lH (SlR.since hb hs0);have HS:=lH hs0;have HBX:=lH (BX.new w (.slice A n c) (.slice B m d) key attrs 46);have HM:=lH (And.intro hn hm);obtain ⟨-,b0,b1,b2,b3⟩:=HBX.out;clear ha hb hs0 hn hm
 go_enter Tryz.func67,Tryz.ntmps67
 go_wp2_with fail;rcases hp with ⟨h0,hpt,hpb⟩ | ⟨h0,hpt,c2⟩
 · have t1:decide ((0:Int) < (m:Int)) = false:=decide_eq_false (by have:=HM.out.2; omega);have t2:decide (0 < m) = false:=decide_eq_false (by have:=HM.out.2; omega);have HPT:=lH (And.intro hpt hpb);clear hpt hpb;refine (c1 _ _ HX.out).mono ?_;rintro _ w1 ⟨rfl,h1⟩;clear HX;replace HS:=lH (HS.out.step h1);replace HBX:=lH (HBX.out.since h1);replace HP:=lH (SlR.since HP.out h1);clear b0 b1 b2 b3 h1;obtain ⟨-,b0,b1,b2,b3⟩:=HBX.out;go_wp2_with fail;refine (rleaf_mk 0 5 ⟨#[]⟩ _).mono ?_;rintro _ w2 ⟨v2,rfl,t2,h2⟩;obtain ⟨AP,QP,e2,-,-⟩:=t2.slice;replace e2:v2 = .slice AP 1 QP:=e2;subst e2;have TP:=lH t2;clear t2;replace HS:=lH (HS.out.step h2);replace HBX:=lH (HBX.out.since h2);replace HP:=lH (SlR.since HP.out h2);clear b0 b1 b2 b3 h2;obtain ⟨-,b0,b1,b2,b3⟩:=HBX.out;replace TP:Hid (TreeS w2 (.slice AP 1 QP) ((F.prim 0 pt pb .nil).flat 0)):=lH (by rw [HPT.out.1,HPT.out.2]; exact TP.out);clear HP HM HPT;go_wp2_with fail;refine (d1 _).mono ?_;rintro _ w5 ⟨u1,rfl,hU,h5⟩;obtain ⟨A5,q5,e5,-,-⟩:=SlR.slice hU;subst e5;obtain ⟨l0,hl0⟩:∃ n,n = L.length:=⟨_,rfl⟩
   rw [<- hl0] at hU ⊢;have HL0:=lH hl0;clear hl0;replace HS:=lH (HS.out.step h5);replace HBX:=lH (HBX.out.since h5);replace TP:=lH (TP.out.since h5);clear b0 b1 b2 b3 h5;obtain ⟨-,b0,b1,b2,b3⟩:=HBX.out;have hsq:=(Since.refl w5).alloc (.cells #[.int .i64 0,.int .i64 0] 65);have r1:(w5.alloc (.cells #[.int .i64 0,.int .i64 0] 65)).heap[w5.heap.size]? = some (.cells #[.int .i64 0,.int .i64 0] 65 (0,0)):=heap_alloc_new w5 _;have hb:=lH (hb_row (K:=KT) (C':=#[.int .i64 C,.int .i64 P]) ((Since.refl w5).alloc _) (Nat.le_refl _) trivial r1);have y0:=hb.out.cell 0 _ rfl;replace HS:=lH (HS.out.step hb.out.since);replace HBX:=lH (HBX.out.since hb.out.since);replace TP:=lH (TP.out.since hb.out.since);have HU:=lH (SlR.since hU hb.out.since);clear hU hsq;have hm:l0 <= 1000:=by rw [HL0.out]; exact HMM.out
   clear b0 b1 b2 b3;go_wp2_with (refine RwL.at_store (ty:=65) rfl ?_; refine wpList_store_row rfl 65 _ _ rfl w5.heap.size #[.int .i64 C,.int .i64 P] (by rfl) (by rfl) _ _ r1 (f2_info C P) rfl (f2_one C P) ?_; generalize (w5.alloc (.cells #[.int .i64 0,.int .i64 0] 65)).setRow w5.heap.size #[.int .i64 C,.int .i64 P] = w6 at HS HU HBX TP y0 ⊢; clear r1 hb)
   clear y0;have HS0:=HS;clear HS;go_loopw [11,12] (fun V i wr => ∃ (k:Nat) (vs:List Value),k <= l0 /\ i = .int .i64 (k:Int) /\ Hid (TRow w6 wr V vs ((L.take k).map fun x => (gOf x).flat 0)) /\ Hid (Since w6 wr)) (fun _ i _ => l0 - (intOf i).toNat)
   case atStart => exact ⟨0,[],Nat.zero_le _,rfl,lH (TRow.nil _ _),lH (Since.refl w6)⟩
   case round =>
     obtain ⟨k,vs,hk,rfl,HR,HS⟩:=hrel;obtain ⟨VA,vc,rfl,-⟩:=HR.out.val;have hvl:vs.length = k:=by rw [HR.out.len,List.length_map,List.length_take,Nat.min_eq_left (by rw [<- HL0.out]; exact hk)]
     have HVL:=lH hvl;rw [hvl];have HR9:=lH (show Rw.Rows wr w6.heap.size (([]:List Row) ++ ⟨75,1,.slice VA k vc,k,vs⟩ :: []) by have h9:=HR.out.row; rw [hvl] at h9; exact h9);clear hvl
     by_cases hlt:k < l0
     · obtain ⟨x,hx⟩:∃ x,L[k]? = some x:=⟨_,List.getElem?_eq_getElem (by rw [<- HL0.out]; exact hlt)⟩
       obtain ⟨b,o,c9,hv,f1,f2,f3,f4⟩:=SlR.form HU.out (by rw [<- HL0.out]; omega);obtain ⟨rfl,-,rfl⟩:=Value.slice.inj hv;have m0:=(Below.cell HS.out (p:=⟨b,o + k,none⟩) f3).trans (f4 k (.string x) (by rw [List.getElem?_map,hx]; rfl));have hmem:=List.mem_of_getElem? hx;have hdd:=HDD.out x hmem;have hts:=Att.take_snoc L k x hx;have HTS:=lH hts;have i1:(0:Int) <= (k:Int):=by omega
       have i2:(k:Int) < (l0:Int):=by omega
       clear hx hv f1 f2 f3 f4 hts hmem;go_wp2_with fail;refine (hdd _).mono ?_;rintro _ w7 ⟨u4,rfl,hU4,h4⟩;obtain ⟨A4,q4,e4,-,-⟩:=hU4.tree.slice;obtain ⟨n4,hn4⟩:∃ n,n = ((gOf x).flat 0).length:=⟨_,rfl⟩
       rw [<- hn4] at e4;subst e4;have r1:(w7.alloc (.cells #[.int .i64 0,.int .i64 0] 65)).heap[w7.heap.size]? = some (.cells #[.int .i64 0,.int .i64 0] 65 (0,0)):=heap_alloc_new w7 _;have hb:=lH (Tree.hb_row (K:=KT) (C':=#[.int .i64 0,.int .i64 0]) ((Since.refl w7).alloc _) (Nat.le_refl _) trivial r1);have y0:(World.setRow (w7.alloc (.cells #[.int .i64 0,.int .i64 0] 65)) w7.heap.size #[.int .i64 0,.int .i64 0]).cell? ⟨w7.heap.size,0,none⟩ = some (.int .i64 0):=hb.out.cell 0 _ rfl;have HS6:=lH ((HS.out.step h4).step hb.out.since);have HT6:=lH ((HR.out.since h4).since hb.out.since);have HR6:=lH (Rw.Rows.since (Rw.Rows.since HR9.out h4) hb.out.since);have HU6:=lH (hU4.since hb.out.since);have HB1:=lH (show k + 1 <= maxLen by unfold maxLen; omega);have HB2:=lH (show (k + 1) * 24 <= 140737488355328 by omega);have HLB:=lH (show ∀ g,(Value.slice VA k vc).ownBlock = some g -> g < wr.heap.size from fun g hg => (World.ownsRow.lt HR9.out.get g hg).2);have HWB:=lH (show wr.heap.size <= ((w7.alloc (.cells #[.int .i64 0,.int .i64 0] 65)).setRow w7.heap.size #[.int .i64 0,.int .i64 0]).heap.size from Nat.le_trans (Below.size h4) (Below.size hb.out.since));clear hU4 h4 HS HR HR9 m0 hn4;go_wp2_with (first
         | (refine RwL.at_store (ty:=65) rfl ?_; refine wpList_store_row rfl 65 _ _ rfl w7.heap.size #[.int .i64 0,.int .i64 0] (by rfl) (by rfl) _ _ r1 (f2_info 0 0) rfl (f2_one 0 0) ?_; generalize hw8:(w7.alloc (.cells #[.int .i64 0,.int .i64 0] 65)).setRow w7.heap.size #[.int .i64 0,.int .i64 0] = w8 at HS6 HT6 HR6 HU6 HWB y0 ⊢; clear hw8 r1 hb)
         | (at_builtin; refine app_rows2 elemTr rfl _ _ (by rfl) w6 w8 _ rfl [] [] _ k _ (by rfl) HR6.out HS6.out #[.slice A4 n4 q4] 1 1 (by rfl) rfl (slice_one A4 n4 q4) HB1.out HB2.out ?_; intro V2 w9 HQ2 HT2 HK2 HW2))
       have HF:Hid (TRow w6 w9 V2 (vs ++ [.slice A4 n4 q4]) ((L.take (k + 1)).map fun x => (gOf x).flat 0)):=lH (by
         rw [HTS.out,List.map_append];refine TRow.push (base:=wr.heap.size) (V:=.slice VA k vc) (by have h9:=HT6.out; rw [HVL.out] at h9; exact h9) HLB.out HU6.out HK2 HWB.out HW2 (by rw [HVL.out]; exact HQ2))
       have HS7:=lH HT2;clear HQ2 HT2 HK2 HW2;go_wp2_with fail;go_roundw
       case rel => exact ⟨k + 1,_,by omega,by go_num,HF,HS7⟩
       case measure => (simp [intOf] <;> omega)
     · obtain rfl:l0 = k:=by omega
       have ht:L.take l0 = L:=by rw [HL0.out,List.take_length]
       have hTT:=HR.out.trees;rw [ht,HVL.out] at hTT;have HT:=lH (show TreesS wr (.slice VA l0 vc) ((L.map gOf).map fun g => g.flat 0) by rw [List.map_map]; exact hTT);obtain ⟨gs,hgs⟩:∃ gs,gs = L.map gOf:=⟨_,rfl⟩
       rw [<- hgs] at HT;have hgl:gs.length = l0:=by rw [hgs,List.length_map,HL0.out]
       have HGS:=lH (show (∀ g ∈ gs,single g) /\ (join gs).cnt <= 900 by rw [hgs]; exact HGG.out);have HOU:=lH (show RdT 104 (pkN nm pt pb key gs) (fun v => #[v]) (.bool q) by rw [hgs]; exact HCR.out);have HEQ:=lH hgs;replace HBX:=lH (HBX.out.since HS.out);replace TP:=lH (TP.out.since HS.out);replace HS:=lH (HS0.out.step HS.out);have HKK:=lH (show KK wr w.heap.size key from ⟨HBX.out.lt,HBX.out.c2⟩);have HGL:=lH hgl;clear HBX HR HR9 ht hTT hgs hgl HVL HU HDD;go_wp2_with fail;have HB:Hid (Since wr wr):=lH (Since.refl wr);refine RegW.start (fun W' => Hid (Since wr W') /\ W'.cell? ⟨w.heap.size,2,none⟩ = some (.string key)) 10 (by kernel_rfl) ⟨lH (HB.out.step (drew_sp _)),HKK.out.at_ (HB.out.step (drew_sp _))⟩ (fun hHeld => ?_);replace HB:=lH (HB.out.step (drew_sp wr));obtain ⟨wa,hwa⟩:∃ W,W = wr.drew:=⟨_,rfl⟩
       rw [<- hwa] at HB hHeld ⊢;clear hwa;refine RegW.tk 1 rfl ?_;try simp only [RegW.p]
       refine RegW.tk 3 rfl ?_;try simp only [RegW.p]
       refine RegW.tk 6 rfl ?_;try simp only [RegW.p]
       refine RegW.tk 7 rfl ?_;try simp only [RegW.p]
       refine RegW.only (i:=0) rfl (by kernel_rfl) (fun K hK => ?_);go_simp;go_at_call 57;refine (rleaf_mk 0 2 ⟨#[0]⟩ _).mono ?_;rintro _ wc ⟨vq,rfl,tq,hq⟩;obtain ⟨A6,Q6,eq,-,-⟩:=tq.slice;replace eq:vq = .slice A6 1 Q6:=eq;subst eq;replace HB:=lH (HB.out.step hq);have T1:=lH tq;clear tq hq;refine hK.out _ _ ⟨HB,HKK.out.at_ HB.out⟩ (fun hHeld => ?_);clear hK K;try simp only [RegW.p]
       refine RegW.only (i:=2) rfl (by kernel_rfl) (fun K hK => ?_);go_simp;go_at_call 57;refine (rleaf_mk 0 6 nm _).mono ?_;rintro _ wd ⟨vq,rfl,tq,hq⟩;obtain ⟨A7,Q7,eq,-,-⟩:=tq.slice;replace eq:vq = .slice A7 1 Q7:=eq;subst eq;replace HB:=lH (HB.out.step hq);have T3:=lH tq;replace T1:=lH (T1.out.since hq);clear tq hq;refine hK.out _ _ ⟨HB,HKK.out.at_ HB.out⟩ (fun hHeld => ?_);clear hK K;try simp only [RegW.p]
       refine RegW.only (i:=4) rfl (by kernel_rfl) (fun K hK => ?_);go_simp;have hq:=(Since.refl wd).alloc (.cells #[.slice A7 1 Q7,.slice AP 1 QP] 75);have T5:=lH (trees_lit wd [.slice A7 1 Q7,.slice AP 1 QP] ([F.prim 0 6 nm .nil,F.prim 0 pt pb .nil].map (fun g => g.flat 0)) rfl (by show 2 <= 1000; omega) (fun j x N hx hN => by
         have hj:j < 2:=by have:=(List.getElem?_eq_some_iff.1 hx).1; simpa using this
         match j,hj with
         | 0,_ => cases hx; cases hN; exact T3.out
         | 1,_ => cases hx; cases hN; exact TP.out.since HB.out) #[.slice A7 1 Q7,.slice AP 1 QP] rfl 75)
       replace HB:=lH (HB.out.step hq);replace T1:=lH (T1.out.since hq);clear hq T3;refine hK.out _ _ ⟨HB,HKK.out.at_ HB.out⟩ (fun hHeld => ?_);clear hK K;try simp only [RegW.p]
       refine RegW.only (i:=5) rfl (by kernel_rfl) (fun K hK => ?_);go_simp;go_at_call 56;refine (rof_g 0 16 [F.prim 0 6 nm .nil,F.prim 0 pt pb .nil] (fun g hg => by
         simp only [List.mem_cons,List.not_mem_nil,or_false] at hg;rcases hg with rfl | rfl <;> exact rfl) (by show 2 <= 1000; omega) (by show 1 + (1 + 0) <= 1000; omega) _ _ T5.out).mono ?_
       rintro _ wf ⟨vq,rfl,tq,hq⟩;obtain ⟨A8,Q8,eq,-,-⟩:=tq.slice;replace eq:vq = .slice A8 3 Q8:=eq;subst eq;replace HB:=lH (HB.out.step hq);replace T1:=lH (T1.out.since hq);have T6:=lH (show TreeS wf (.slice A8 3 Q8) ((algF nm pt pb).flat 0) from tq);clear tq hq T5;refine hK.out _ _ ⟨HB,HKK.out.at_ HB.out⟩ (fun hHeld => ?_);clear hK K;try simp only [RegW.p]
       refine RegW.only (i:=8) rfl (by kernel_rfl) (fun K hK => ?_);go_simp;go_at_call 57;refine (rleaf_mk 0 4 key _).mono ?_;rintro _ wg ⟨vq,rfl,tq,hq⟩;obtain ⟨A9,Q9,eq,-,-⟩:=tq.slice;replace eq:vq = .slice A9 1 Q9:=eq;subst eq;replace HB:=lH (HB.out.step hq);have T9:=lH tq;replace T1:=lH (T1.out.since hq);replace T6:=lH (T6.out.since hq);clear tq hq;refine hK.out _ _ ⟨HB,HKK.out.at_ HB.out⟩ (fun hHeld => ?_);clear hK K;try simp only [RegW.p]
       refine RegW.only (i:=9) rfl (by kernel_rfl) (fun K hK => ?_);go_simp;have HTR:=lH (TRow.lit wg [.slice A6 1 Q6,.slice A8 3 Q8,.slice A9 1 Q9] [[⟨0,2,false,⟨#[0]⟩,[]⟩],(algF nm pt pb).flat 0,[⟨0,4,false,key,[]⟩]] 3 rfl rfl (by decide) (fun j x N hx hN => by
         have hj:j < 3:=by have:=(List.getElem?_eq_some_iff.1 hx).1; simpa using this
         match j,hj with
         | 0,_ => cases hx; cases hN; exact T1.out
         | 1,_ => cases hx; cases hN; exact T6.out
         | 2,_ => cases hx; cases hN; exact T9.out) #[.slice A6 1 Q6,.slice A8 3 Q8,.slice A9 1 Q9] rfl)
       have HG:=lH ((Since.refl wg).alloc (.cells #[.slice A6 1 Q6,.slice A8 3 Q8,.slice A9 1 Q9] 75));have HBG:=HB;replace HB:=lH (HB.out.step HG.out);have hgl:(wg.alloc (.cells #[.slice A6 1 Q6,.slice A8 3 Q8,.slice A9 1 Q9] 75)).heap.size = wg.heap.size + 1:=by simp
       obtain ⟨wl,hwl⟩:∃ W,W = wg.alloc (.cells #[.slice A6 1 Q6,.slice A8 3 Q8,.slice A9 1 Q9] 75):=⟨_,rfl⟩
       rw [<- hwl] at HTR HG HB hgl ⊢;have HGZ:=lH hgl;clear hwl T1 T6 T9 hgl;refine hK.out _ _ ⟨HB,HKK.out.at_ HB.out⟩ (fun hHeld => ?_);clear hK K;try simp only [RegW.p]
       refine RegW.last rfl (by kernel_rfl) (by kernel_rfl) ?_;clear hHeld;have HS3:=lH (HS.out.step HBG.out);replace HS:=lH (HS.out.step HB.out);replace HT:=lH (HT.out.since HB.out);clear HB HKK TP HBG
       by_cases hz:l0 = 0
       · have t8:decide ((0:Int) < (l0:Int)) = false:=decide_eq_false (by omega);have t9:decide (0 < l0) = false:=decide_eq_false (by omega);have hg0:gs = []:=List.length_eq_zero_iff.1 (by rw [HGL.out]; exact hz);have HG0:=lH hg0;have HTT:=lH HTR.out.trees;clear hz hg0 HT HTR;go_wp2_with fail;refine (rof_g 0 16 [.prim 0 2 ⟨#[0]⟩ .nil,algF nm pt pb,.prim 0 4 key .nil] (fun g hg => by
           simp only [List.mem_cons,List.not_mem_nil,or_false] at hg;rcases hg with rfl | rfl | rfl <;> exact rfl) (by show 3 <= 1000; omega) (by show 1 + (1 + (1 + (1 + 0)) + (1 + 0)) <= 1000; omega) _ _ HTT.out).mono ?_
         rintro _ wx ⟨vq,rfl,tq,hq⟩;have TX:=lH (show TreeS wx vq (pkN nm pt pb key gs) by rw [HG0.out]; exact tq);obtain ⟨A10,Q10,eq,-,-⟩:=TX.out.slice;obtain ⟨nt,hnt⟩:∃ n,n = (pkN nm pt pb key gs).length:=⟨_,rfl⟩
         rw [<- hnt] at eq;subst eq;replace HS:=lH (HS.out.step hq);clear tq hq hnt;go_wp2_with fail;refine HOU.out.calls0 TX.out ?_;intro wy hy;replace HS:=lH (HS.out.step hy);replace TX:=lH (TX.out.since hy);clear hy;go_wp2_with fail;go_ret2;exact ⟨_,rfl,by rw [<- HEQ.out]; exact TX.out,HS.out⟩
       · have t8:decide ((0:Int) < (l0:Int)) = true:=decide_eq_true (by omega);have t9:decide (0 < l0) = true:=decide_eq_true (by omega);have HG0:=lH (show gs ≠ [] by intro h9; rw [h9] at HGL; exact hz HGL.out.symm);clear hz;go_wp2_with fail;refine (rof_gn 2 0 gs HGS.out.1 (by rw [HGL.out]; exact hm) (by have:=HGS.out.2; omega) _ _ HT.out).mono ?_;rintro _ wm ⟨vq,rfl,tq,hq⟩;have tN:TreeN wl.heap.size wm vq ((F.cons 2 0 (join gs) .nil).flat 0):=tq;obtain ⟨AN,QN,eN,-,-⟩:=tN.tree.slice;obtain ⟨nn,hnn⟩:∃ n,n = ((F.cons 2 0 (join gs) .nil).flat 0).length:=⟨_,rfl⟩
         rw [<- hnn] at eN;subst eN;have HTN:=lH tN;have HSG:=lH (HG.out.step hq);have HTM:=lH (HTR.out.since hq);have HLB:=lH (show ∀ g,(Value.slice (some ⟨wg.heap.size,0,none⟩) 3 3).ownBlock = some g -> g < wl.heap.size from fun g hg => by
           have h9:=Option.some.inj (show some wg.heap.size = some g from hg);have:=HGZ.out;omega)
         have HWB:=lH (Below.size hq);clear tN tq hq hnn HTR HT;go_wp2_with (at_builtin; refine app_rows2 elemTr rfl _ _ (by rfl) wg wm _ rfl [] [] _ 3 _ (by rfl) HTM.out.row HSG.out #[.slice AN nn QN] 1 1 (by rfl) rfl (slice_one AN nn QN) (by decide) (by decide) ?_; intro V2 w9 HQ2 HT2 HK2 HW2)
         have HF:=lH (TRow.push (base:=wl.heap.size) HTM.out HLB.out HTN.out HK2 HWB.out HW2 HQ2);obtain ⟨VA9,vc9,rfl,-⟩:=HF.out.val;have HTT:=lH HF.out.trees;replace HS:=lH (HS3.out.step HT2);clear HQ2 HT2 HK2 HW2 HF HTM HSG;go_wp2_with fail;refine (rof_g 0 16 [.prim 0 2 ⟨#[0]⟩ .nil,algF nm pt pb,.prim 0 4 key .nil,.cons 2 0 (join gs) .nil] (fun g hg => by
           simp only [List.mem_cons,List.not_mem_nil,or_false] at hg;rcases hg with rfl | rfl | rfl | rfl <;> exact rfl) (by show 4 <= 1000; omega) (by have:=HGS.out.2; show 1 + (1 + (1 + (1 + 0)) + (1 + (1 + (join gs).cnt + 0))) <= 1000; omega) _ _ HTT.out).mono ?_
         rintro _ wx ⟨vq,rfl,tq,hq⟩;have TX:=lH (show TreeS wx vq (pkN nm pt pb key gs) by unfold pkN pkF; rw [ats_ne HG0.out]; exact tq);obtain ⟨A10,Q10,eq,-,-⟩:=TX.out.slice;obtain ⟨nt,hnt⟩:∃ n,n = (pkN nm pt pb key gs).length:=⟨_,rfl⟩
         rw [<- hnt] at eq;subst eq;replace HS:=lH (HS.out.step hq);clear tq hq hnt;go_wp2_with fail;refine HOU.out.calls0 TX.out ?_;intro wy hy;replace HS:=lH (HS.out.step hy);replace TX:=lH (TX.out.since hy);clear hy;go_wp2_with fail;go_ret2;exact ⟨_,rfl,by rw [<- HEQ.out]; exact TX.out,HS.out⟩
 · have t1:decide ((0:Int) < (m:Int)) = true:=decide_eq_true (by have:=HM.out.2; omega);have t2:decide (0 < m) = true:=decide_eq_true (by have:=HM.out.2; omega);have HPT:=lH hpt;clear hpt;refine (c1 _ _ HX.out).mono ?_;rintro _ w1 ⟨rfl,h1⟩;clear HX;replace HS:=lH (HS.out.step h1);replace HBX:=lH (HBX.out.since h1);replace HP:=lH (SlR.since HP.out h1);clear b0 b1 b2 b3 h1;obtain ⟨-,b0,b1,b2,b3⟩:=HBX.out;go_wp2_with fail;refine (rleaf_mk 0 5 ⟨#[]⟩ _).mono ?_;rintro _ w2 ⟨v2,rfl,t2,h2⟩;obtain ⟨A0,Q0,e2,-,-⟩:=t2.slice;replace e2:v2 = .slice A0 1 Q0:=e2;subst e2;clear t2;replace HS:=lH (HS.out.step h2);replace HBX:=lH (HBX.out.since h2);replace HP:=lH (SlR.since HP.out h2);clear b0 b1 b2 b3 h2;obtain ⟨-,b0,b1,b2,b3⟩:=HBX.out;go_wp2_with fail;refine (c2 _ _ HP.out).mono ?_;rintro _ w3 ⟨rfl,h3⟩;replace HS:=lH (HS.out.step h3);replace HBX:=lH (HBX.out.since h3);replace HP:=lH (SlR.since HP.out h3);clear b0 b1 b2 b3 h3;obtain ⟨-,b0,b1,b2,b3⟩:=HBX.out;go_wp2_with fail;refine (rleaf_mk 0 6 pb _).mono ?_;rintro _ w4 ⟨v4,rfl,t4,h4⟩;obtain ⟨AP,QP,e4,-,-⟩:=t4.slice;replace e4:v4 = .slice AP 1 QP:=e4;subst e4;have TP:Hid (TreeS w4 (.slice AP 1 QP) ((F.prim 0 pt pb .nil).flat 0)):=lH (by rw [HPT.out]; exact t4);clear t4 HPT;replace HS:=lH (HS.out.step h4);replace HBX:=lH (HBX.out.since h4);replace HP:=lH (SlR.since HP.out h4);clear b0 b1 b2 b3 h4;obtain ⟨-,b0,b1,b2,b3⟩:=HBX.out;clear HP HM;go_wp2_with fail;refine (d1 _).mono ?_;rintro _ w5 ⟨u1,rfl,hU,h5⟩;obtain ⟨A5,q5,e5,-,-⟩:=SlR.slice hU;subst e5;obtain ⟨l0,hl0⟩:∃ n,n = L.length:=⟨_,rfl⟩
   rw [<- hl0] at hU ⊢;have HL0:=lH hl0;clear hl0;replace HS:=lH (HS.out.step h5);replace HBX:=lH (HBX.out.since h5);replace TP:=lH (TP.out.since h5);clear b0 b1 b2 b3 h5;obtain ⟨-,b0,b1,b2,b3⟩:=HBX.out;have hsq:=(Since.refl w5).alloc (.cells #[.int .i64 0,.int .i64 0] 65);have r1:(w5.alloc (.cells #[.int .i64 0,.int .i64 0] 65)).heap[w5.heap.size]? = some (.cells #[.int .i64 0,.int .i64 0] 65 (0,0)):=heap_alloc_new w5 _;have hb:=lH (hb_row (K:=KT) (C':=#[.int .i64 C,.int .i64 P]) ((Since.refl w5).alloc _) (Nat.le_refl _) trivial r1);have y0:=hb.out.cell 0 _ rfl;replace HS:=lH (HS.out.step hb.out.since);replace HBX:=lH (HBX.out.since hb.out.since);replace TP:=lH (TP.out.since hb.out.since);have HU:=lH (SlR.since hU hb.out.since);clear hU hsq;have hm:l0 <= 1000:=by rw [HL0.out]; exact HMM.out
   clear b0 b1 b2 b3;go_wp2_with (refine RwL.at_store (ty:=65) rfl ?_; refine wpList_store_row rfl 65 _ _ rfl w5.heap.size #[.int .i64 C,.int .i64 P] (by rfl) (by rfl) _ _ r1 (f2_info C P) rfl (f2_one C P) ?_; generalize (w5.alloc (.cells #[.int .i64 0,.int .i64 0] 65)).setRow w5.heap.size #[.int .i64 C,.int .i64 P] = w6 at HS HU HBX TP y0 ⊢; clear r1 hb)
   clear y0;have HS0:=HS;clear HS;go_loopw [11,12] (fun V i wr => ∃ (k:Nat) (vs:List Value),k <= l0 /\ i = .int .i64 (k:Int) /\ Hid (TRow w6 wr V vs ((L.take k).map fun x => (gOf x).flat 0)) /\ Hid (Since w6 wr)) (fun _ i _ => l0 - (intOf i).toNat)
   case atStart => exact ⟨0,[],Nat.zero_le _,rfl,lH (TRow.nil _ _),lH (Since.refl w6)⟩
   case round =>
     obtain ⟨k,vs,hk,rfl,HR,HS⟩:=hrel;obtain ⟨VA,vc,rfl,-⟩:=HR.out.val;have hvl:vs.length = k:=by rw [HR.out.len,List.length_map,List.length_take,Nat.min_eq_left (by rw [<- HL0.out]; exact hk)]
     have HVL:=lH hvl;rw [hvl];have HR9:=lH (show Rw.Rows wr w6.heap.size (([]:List Row) ++ ⟨75,1,.slice VA k vc,k,vs⟩ :: []) by have h9:=HR.out.row; rw [hvl] at h9; exact h9);clear hvl
     by_cases hlt:k < l0
     · obtain ⟨x,hx⟩:∃ x,L[k]? = some x:=⟨_,List.getElem?_eq_getElem (by rw [<- HL0.out]; exact hlt)⟩
       obtain ⟨b,o,c9,hv,f1,f2,f3,f4⟩:=SlR.form HU.out (by rw [<- HL0.out]; omega);obtain ⟨rfl,-,rfl⟩:=Value.slice.inj hv;have m0:=(Below.cell HS.out (p:=⟨b,o + k,none⟩) f3).trans (f4 k (.string x) (by rw [List.getElem?_map,hx]; rfl));have hmem:=List.mem_of_getElem? hx;have hdd:=HDD.out x hmem;have hts:=Att.take_snoc L k x hx;have HTS:=lH hts;have i1:(0:Int) <= (k:Int):=by omega
       have i2:(k:Int) < (l0:Int):=by omega
       clear hx hv f1 f2 f3 f4 hts hmem;go_wp2_with fail;refine (hdd _).mono ?_;rintro _ w7 ⟨u4,rfl,hU4,h4⟩;obtain ⟨A4,q4,e4,-,-⟩:=hU4.tree.slice;obtain ⟨n4,hn4⟩:∃ n,n = ((gOf x).flat 0).length:=⟨_,rfl⟩
       rw [<- hn4] at e4;subst e4;have r1:(w7.alloc (.cells #[.int .i64 0,.int .i64 0] 65)).heap[w7.heap.size]? = some (.cells #[.int .i64 0,.int .i64 0] 65 (0,0)):=heap_alloc_new w7 _;have hb:=lH (Tree.hb_row (K:=KT) (C':=#[.int .i64 0,.int .i64 0]) ((Since.refl w7).alloc _) (Nat.le_refl _) trivial r1);have y0:(World.setRow (w7.alloc (.cells #[.int .i64 0,.int .i64 0] 65)) w7.heap.size #[.int .i64 0,.int .i64 0]).cell? ⟨w7.heap.size,0,none⟩ = some (.int .i64 0):=hb.out.cell 0 _ rfl;have HS6:=lH ((HS.out.step h4).step hb.out.since);have HT6:=lH ((HR.out.since h4).since hb.out.since);have HR6:=lH (Rw.Rows.since (Rw.Rows.since HR9.out h4) hb.out.since);have HU6:=lH (hU4.since hb.out.since);have HB1:=lH (show k + 1 <= maxLen by unfold maxLen; omega);have HB2:=lH (show (k + 1) * 24 <= 140737488355328 by omega);have HLB:=lH (show ∀ g,(Value.slice VA k vc).ownBlock = some g -> g < wr.heap.size from fun g hg => (World.ownsRow.lt HR9.out.get g hg).2);have HWB:=lH (show wr.heap.size <= ((w7.alloc (.cells #[.int .i64 0,.int .i64 0] 65)).setRow w7.heap.size #[.int .i64 0,.int .i64 0]).heap.size from Nat.le_trans (Below.size h4) (Below.size hb.out.since));clear hU4 h4 HS HR HR9 m0 hn4;go_wp2_with (first
         | (refine RwL.at_store (ty:=65) rfl ?_; refine wpList_store_row rfl 65 _ _ rfl w7.heap.size #[.int .i64 0,.int .i64 0] (by rfl) (by rfl) _ _ r1 (f2_info 0 0) rfl (f2_one 0 0) ?_; generalize hw8:(w7.alloc (.cells #[.int .i64 0,.int .i64 0] 65)).setRow w7.heap.size #[.int .i64 0,.int .i64 0] = w8 at HS6 HT6 HR6 HU6 HWB y0 ⊢; clear hw8 r1 hb)
         | (at_builtin; refine app_rows2 elemTr rfl _ _ (by rfl) w6 w8 _ rfl [] [] _ k _ (by rfl) HR6.out HS6.out #[.slice A4 n4 q4] 1 1 (by rfl) rfl (slice_one A4 n4 q4) HB1.out HB2.out ?_; intro V2 w9 HQ2 HT2 HK2 HW2))
       have HF:Hid (TRow w6 w9 V2 (vs ++ [.slice A4 n4 q4]) ((L.take (k + 1)).map fun x => (gOf x).flat 0)):=lH (by
         rw [HTS.out,List.map_append];refine TRow.push (base:=wr.heap.size) (V:=.slice VA k vc) (by have h9:=HT6.out; rw [HVL.out] at h9; exact h9) HLB.out HU6.out HK2 HWB.out HW2 (by rw [HVL.out]; exact HQ2))
       have HS7:=lH HT2;clear HQ2 HT2 HK2 HW2;go_wp2_with fail;go_roundw
       case rel => exact ⟨k + 1,_,by omega,by go_num,HF,HS7⟩
       case measure => (simp [intOf] <;> omega)
     · obtain rfl:l0 = k:=by omega
       have ht:L.take l0 = L:=by rw [HL0.out,List.take_length]
       have hTT:=HR.out.trees;rw [ht,HVL.out] at hTT;have HT:=lH (show TreesS wr (.slice VA l0 vc) ((L.map gOf).map fun g => g.flat 0) by rw [List.map_map]; exact hTT);obtain ⟨gs,hgs⟩:∃ gs,gs = L.map gOf:=⟨_,rfl⟩
       rw [<- hgs] at HT;have hgl:gs.length = l0:=by rw [hgs,List.length_map,HL0.out]
       have HGS:=lH (show (∀ g ∈ gs,single g) /\ (join gs).cnt <= 900 by rw [hgs]; exact HGG.out);have HOU:=lH (show RdT 104 (pkN nm pt pb key gs) (fun v => #[v]) (.bool q) by rw [hgs]; exact HCR.out);have HEQ:=lH hgs;replace HBX:=lH (HBX.out.since HS.out);replace TP:=lH (TP.out.since HS.out);replace HS:=lH (HS0.out.step HS.out);have HKK:=lH (show KK wr w.heap.size key from ⟨HBX.out.lt,HBX.out.c2⟩);have HGL:=lH hgl;clear HBX HR HR9 ht hTT hgs hgl HVL HU HDD;go_wp2_with fail;have HB:Hid (Since wr wr):=lH (Since.refl wr);refine RegW.start (fun W' => Hid (Since wr W') /\ W'.cell? ⟨w.heap.size,2,none⟩ = some (.string key)) 10 (by kernel_rfl) ⟨lH (HB.out.step (drew_sp _)),HKK.out.at_ (HB.out.step (drew_sp _))⟩ (fun hHeld => ?_);replace HB:=lH (HB.out.step (drew_sp wr));obtain ⟨wa,hwa⟩:∃ W,W = wr.drew:=⟨_,rfl⟩
       rw [<- hwa] at HB hHeld ⊢;clear hwa;refine RegW.tk 1 rfl ?_;try simp only [RegW.p]
       refine RegW.tk 3 rfl ?_;try simp only [RegW.p]
       refine RegW.tk 6 rfl ?_;try simp only [RegW.p]
       refine RegW.tk 7 rfl ?_;try simp only [RegW.p]
       refine RegW.only (i:=0) rfl (by kernel_rfl) (fun K hK => ?_);go_simp;go_at_call 57;refine (rleaf_mk 0 2 ⟨#[0]⟩ _).mono ?_;rintro _ wc ⟨vq,rfl,tq,hq⟩;obtain ⟨A6,Q6,eq,-,-⟩:=tq.slice;replace eq:vq = .slice A6 1 Q6:=eq;subst eq;replace HB:=lH (HB.out.step hq);have T1:=lH tq;clear tq hq;refine hK.out _ _ ⟨HB,HKK.out.at_ HB.out⟩ (fun hHeld => ?_);clear hK K;try simp only [RegW.p]
       refine RegW.only (i:=2) rfl (by kernel_rfl) (fun K hK => ?_);go_simp;go_at_call 57;refine (rleaf_mk 0 6 nm _).mono ?_;rintro _ wd ⟨vq,rfl,tq,hq⟩;obtain ⟨A7,Q7,eq,-,-⟩:=tq.slice;replace eq:vq = .slice A7 1 Q7:=eq;subst eq;replace HB:=lH (HB.out.step hq);have T3:=lH tq;replace T1:=lH (T1.out.since hq);clear tq hq;refine hK.out _ _ ⟨HB,HKK.out.at_ HB.out⟩ (fun hHeld => ?_);clear hK K;try simp only [RegW.p]
       refine RegW.only (i:=4) rfl (by kernel_rfl) (fun K hK => ?_);go_simp;have hq:=(Since.refl wd).alloc (.cells #[.slice A7 1 Q7,.slice AP 1 QP] 75);have T5:=lH (trees_lit wd [.slice A7 1 Q7,.slice AP 1 QP] ([F.prim 0 6 nm .nil,F.prim 0 pt pb .nil].map (fun g => g.flat 0)) rfl (by show 2 <= 1000; omega) (fun j x N hx hN => by
         have hj:j < 2:=by have:=(List.getElem?_eq_some_iff.1 hx).1; simpa using this
         match j,hj with
         | 0,_ => cases hx; cases hN; exact T3.out
         | 1,_ => cases hx; cases hN; exact TP.out.since HB.out) #[.slice A7 1 Q7,.slice AP 1 QP] rfl 75)
       replace HB:=lH (HB.out.step hq);replace T1:=lH (T1.out.since hq);clear hq T3;refine hK.out _ _ ⟨HB,HKK.out.at_ HB.out⟩ (fun hHeld => ?_);clear hK K;try simp only [RegW.p]
       refine RegW.only (i:=5) rfl (by kernel_rfl) (fun K hK => ?_);go_simp;go_at_call 56;refine (rof_g 0 16 [F.prim 0 6 nm .nil,F.prim 0 pt pb .nil] (fun g hg => by
         simp only [List.mem_cons,List.not_mem_nil,or_false] at hg;rcases hg with rfl | rfl <;> exact rfl) (by show 2 <= 1000; omega) (by show 1 + (1 + 0) <= 1000; omega) _ _ T5.out).mono ?_
       rintro _ wf ⟨vq,rfl,tq,hq⟩;obtain ⟨A8,Q8,eq,-,-⟩:=tq.slice;replace eq:vq = .slice A8 3 Q8:=eq;subst eq;replace HB:=lH (HB.out.step hq);replace T1:=lH (T1.out.since hq);have T6:=lH (show TreeS wf (.slice A8 3 Q8) ((algF nm pt pb).flat 0) from tq);clear tq hq T5;refine hK.out _ _ ⟨HB,HKK.out.at_ HB.out⟩ (fun hHeld => ?_);clear hK K;try simp only [RegW.p]
       refine RegW.only (i:=8) rfl (by kernel_rfl) (fun K hK => ?_);go_simp;go_at_call 57;refine (rleaf_mk 0 4 key _).mono ?_;rintro _ wg ⟨vq,rfl,tq,hq⟩;obtain ⟨A9,Q9,eq,-,-⟩:=tq.slice;replace eq:vq = .slice A9 1 Q9:=eq;subst eq;replace HB:=lH (HB.out.step hq);have T9:=lH tq;replace T1:=lH (T1.out.since hq);replace T6:=lH (T6.out.since hq);clear tq hq;refine hK.out _ _ ⟨HB,HKK.out.at_ HB.out⟩ (fun hHeld => ?_);clear hK K;try simp only [RegW.p]
       refine RegW.only (i:=9) rfl (by kernel_rfl) (fun K hK => ?_);go_simp;have HTR:=lH (TRow.lit wg [.slice A6 1 Q6,.slice A8 3 Q8,.slice A9 1 Q9] [[⟨0,2,false,⟨#[0]⟩,[]⟩],(algF nm pt pb).flat 0,[⟨0,4,false,key,[]⟩]] 3 rfl rfl (by decide) (fun j x N hx hN => by
         have hj:j < 3:=by have:=(List.getElem?_eq_some_iff.1 hx).1; simpa using this
         match j,hj with
         | 0,_ => cases hx; cases hN; exact T1.out
         | 1,_ => cases hx; cases hN; exact T6.out
         | 2,_ => cases hx; cases hN; exact T9.out) #[.slice A6 1 Q6,.slice A8 3 Q8,.slice A9 1 Q9] rfl)
       have HG:=lH ((Since.refl wg).alloc (.cells #[.slice A6 1 Q6,.slice A8 3 Q8,.slice A9 1 Q9] 75));have HBG:=HB;replace HB:=lH (HB.out.step HG.out);have hgl:(wg.alloc (.cells #[.slice A6 1 Q6,.slice A8 3 Q8,.slice A9 1 Q9] 75)).heap.size = wg.heap.size + 1:=by simp
       obtain ⟨wl,hwl⟩:∃ W,W = wg.alloc (.cells #[.slice A6 1 Q6,.slice A8 3 Q8,.slice A9 1 Q9] 75):=⟨_,rfl⟩
       rw [<- hwl] at HTR HG HB hgl ⊢;have HGZ:=lH hgl;clear hwl T1 T6 T9 hgl;refine hK.out _ _ ⟨HB,HKK.out.at_ HB.out⟩ (fun hHeld => ?_);clear hK K;try simp only [RegW.p]
       refine RegW.last rfl (by kernel_rfl) (by kernel_rfl) ?_;clear hHeld;have HS3:=lH (HS.out.step HBG.out);replace HS:=lH (HS.out.step HB.out);replace HT:=lH (HT.out.since HB.out);clear HB HKK TP HBG
       by_cases hz:l0 = 0
       · have t8:decide ((0:Int) < (l0:Int)) = false:=decide_eq_false (by omega);have t9:decide (0 < l0) = false:=decide_eq_false (by omega);have hg0:gs = []:=List.length_eq_zero_iff.1 (by rw [HGL.out]; exact hz);have HG0:=lH hg0;have HTT:=lH HTR.out.trees;clear hz hg0 HT HTR;go_wp2_with fail;refine (rof_g 0 16 [.prim 0 2 ⟨#[0]⟩ .nil,algF nm pt pb,.prim 0 4 key .nil] (fun g hg => by
           simp only [List.mem_cons,List.not_mem_nil,or_false] at hg;rcases hg with rfl | rfl | rfl <;> exact rfl) (by show 3 <= 1000; omega) (by show 1 + (1 + (1 + (1 + 0)) + (1 + 0)) <= 1000; omega) _ _ HTT.out).mono ?_
         rintro _ wx ⟨vq,rfl,tq,hq⟩;have TX:=lH (show TreeS wx vq (pkN nm pt pb key gs) by rw [HG0.out]; exact tq);obtain ⟨A10,Q10,eq,-,-⟩:=TX.out.slice;obtain ⟨nt,hnt⟩:∃ n,n = (pkN nm pt pb key gs).length:=⟨_,rfl⟩
         rw [<- hnt] at eq;subst eq;replace HS:=lH (HS.out.step hq);clear tq hq hnt;go_wp2_with fail;refine HOU.out.calls0 TX.out ?_;intro wy hy;replace HS:=lH (HS.out.step hy);replace TX:=lH (TX.out.since hy);clear hy;go_wp2_with fail;go_ret2;exact ⟨_,rfl,by rw [<- HEQ.out]; exact TX.out,HS.out⟩
       · have t8:decide ((0:Int) < (l0:Int)) = true:=decide_eq_true (by omega);have t9:decide (0 < l0) = true:=decide_eq_true (by omega);have HG0:=lH (show gs ≠ [] by intro h9; rw [h9] at HGL; exact hz HGL.out.symm);clear hz;go_wp2_with fail;refine (rof_gn 2 0 gs HGS.out.1 (by rw [HGL.out]; exact hm) (by have:=HGS.out.2; omega) _ _ HT.out).mono ?_;rintro _ wm ⟨vq,rfl,tq,hq⟩;have tN:TreeN wl.heap.size wm vq ((F.cons 2 0 (join gs) .nil).flat 0):=tq;obtain ⟨AN,QN,eN,-,-⟩:=tN.tree.slice;obtain ⟨nn,hnn⟩:∃ n,n = ((F.cons 2 0 (join gs) .nil).flat 0).length:=⟨_,rfl⟩
         rw [<- hnn] at eN;subst eN;have HTN:=lH tN;have HSG:=lH (HG.out.step hq);have HTM:=lH (HTR.out.since hq);have HLB:=lH (show ∀ g,(Value.slice (some ⟨wg.heap.size,0,none⟩) 3 3).ownBlock = some g -> g < wl.heap.size from fun g hg => by
           have h9:=Option.some.inj (show some wg.heap.size = some g from hg);have:=HGZ.out;omega)
         have HWB:=lH (Below.size hq);clear tN tq hq hnn HTR HT;go_wp2_with (at_builtin; refine app_rows2 elemTr rfl _ _ (by rfl) wg wm _ rfl [] [] _ 3 _ (by rfl) HTM.out.row HSG.out #[.slice AN nn QN] 1 1 (by rfl) rfl (slice_one AN nn QN) (by decide) (by decide) ?_; intro V2 w9 HQ2 HT2 HK2 HW2)
         have HF:=lH (TRow.push (base:=wl.heap.size) HTM.out HLB.out HTN.out HK2 HWB.out HW2 HQ2);obtain ⟨VA9,vc9,rfl,-⟩:=HF.out.val;have HTT:=lH HF.out.trees;replace HS:=lH (HS3.out.step HT2);clear HQ2 HT2 HK2 HW2 HF HTM HSG;go_wp2_with fail;refine (rof_g 0 16 [.prim 0 2 ⟨#[0]⟩ .nil,algF nm pt pb,.prim 0 4 key .nil,.cons 2 0 (join gs) .nil] (fun g hg => by
           simp only [List.mem_cons,List.not_mem_nil,or_false] at hg;rcases hg with rfl | rfl | rfl | rfl <;> exact rfl) (by show 4 <= 1000; omega) (by have:=HGS.out.2; show 1 + (1 + (1 + (1 + 0)) + (1 + (1 + (join gs).cnt + 0))) <= 1000; omega) _ _ HTT.out).mono ?_
         rintro _ wx ⟨vq,rfl,tq,hq⟩;have TX:=lH (show TreeS wx vq (pkN nm pt pb key gs) by unfold pkN pkF; rw [ats_ne HG0.out]; exact tq);obtain ⟨A10,Q10,eq,-,-⟩:=TX.out.slice;obtain ⟨nt,hnt⟩:∃ n,n = (pkN nm pt pb key gs).length:=⟨_,rfl⟩
         rw [<- hnt] at eq;subst eq;replace HS:=lH (HS.out.step hq);clear tq hq hnt;go_wp2_with fail;refine HOU.out.calls0 TX.out ?_;intro wy hy;replace HS:=lH (HS.out.step hy);replace TX:=lH (TX.out.since hy);clear hy;go_wp2_with fail;go_ret2;exact ⟨_,rfl,by rw [<- HEQ.out]; exact TX.out,HS.out⟩
end Pk
namespace Atf
open Att Rw Atm Tlv
end Atf
namespace Atf
open Att Rw Atm Tlv
structure KB (wr:World) (g:Nat) (t:Int):Prop where
 lt:g < wr.heap.size
 cell:wr.cell? ⟨g,0,none⟩ = some (.int .i64 t)
end Atf
namespace Atf
open Att Rw Atm Tlv
end Atf
namespace Atf
open Att Rw Atm Tlv
end Atf
end Go.Proofs.YtpanhhjkecebkaaGreat
