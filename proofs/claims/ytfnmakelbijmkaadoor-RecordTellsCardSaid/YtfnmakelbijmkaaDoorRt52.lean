import Derived.Test.YtfnmakelbijmkaaDoorRt51
set_option maxRecDepth 100000
namespace Go.Proofs.YtfnmakelbijmkaaDoor
open Go.RowKit
namespace Rcd
open Att Kind Rec Atf Rw Flt Tlv
abbrev aT:ByteArray:=⟨#[65,69,83,45,49,50,56,32,51,48,51,49,51,50,51,51,51,52,51,53,51,54,51,55,51,56,51,57,54,49,54,50,54,51,54,52,54,53,54,54,32,53,61,54,49]⟩
abbrev aK:ByteArray:=⟨#[48,49,50,51,52,53,54,55,56,57,97,98,99,100,101,102]⟩
abbrev aS:ByteArray:=⟨#[65,69,83,45,49,50,56]⟩
abbrev aA:List A2:=[(5,⟨#[97]⟩)]
theorem rec_a:recE 1 aK aA = 0:=by decide +kernel
theorem text_a:textV 1 aK aA ⟨#[]⟩ ⟨#[]⟩ ⟨#[]⟩ ⟨#[]⟩ = aT:=by decide +kernel
theorem par_a:parV aT = ((1,aK,aA,noH),0):=by
 have h:=par_text ⟨#[]⟩ ⟨#[]⟩ ⟨#[]⟩ ⟨#[]⟩ rec_a
 rw [text_a] at h
 exact h
theorem par_s:parV aS = (noCd,5):=by
 unfold parV
 rw [show candP aS.data.toList = none by decide +kernel]
set_option maxHeartbeats 4000000 in
theorem awake_core (aT' aK' aS':ByteArray) (hT':aT' = aT) (hK':aK' = aK) (hS':aS' = aS) (w:World) (hT:Tab2 w) (c1:ParR 7 aT' (1,aK',aA,noH) 0) (c2:ParR 7 aS' noCd 5):Calls Tryd.prog 6 #[] w fun e w' => e = .returned (.bool true) /\ Since w w':=by
 subst hT' hK' hS'
 have HT:=lH hT
 clear hT
 have c3:=check_rec 1 aK ⟨#[]⟩ ⟨#[]⟩ ⟨#[]⟩ ⟨#[]⟩ aA (by decide) 0 rec_a.symm
 have c4:=text_mk 1 aK ⟨#[]⟩ ⟨#[]⟩ ⟨#[]⟩ ⟨#[]⟩ aA (by decide) ⟨by decide,by decide,by decide,by decide⟩
 rw [text_a] at c4
 have c5:=alike_t 1 aK ⟨#[]⟩ ⟨#[]⟩ ⟨#[]⟩ ⟨#[]⟩ aA
 have c6:=bare_mk 1 aK ⟨#[]⟩ ⟨#[]⟩ ⟨#[]⟩ ⟨#[]⟩ aA
 rw [show bareB ⟨#[]⟩ ⟨#[]⟩ ⟨#[]⟩ ⟨#[]⟩ = true by decide +kernel] at c6
 have c7:=same_t 1 aK ⟨#[]⟩ ⟨#[]⟩ ⟨#[]⟩ ⟨#[]⟩ aA
 have hz:(w.alloc (.cells #[.int .i64 5,.string ⟨#[97]⟩] 38)).heap.size = w.heap.size + 1:=by simp
 obtain ⟨C,hC⟩:∃ C:Array Value,C = #[.int .i64 1,.string aK,.slice (some ⟨w.heap.size,0,none⟩) 1 1,.string ⟨#[]⟩,.string ⟨#[]⟩,.string ⟨#[]⟩,.string ⟨#[]⟩]:=⟨_,rfl⟩
 have hr:Hid (HR w (w.heap.size + 1) C 26 ((w.alloc (.cells #[.int .i64 5,.string ⟨#[97]⟩] 38)).alloc (.cells C 26))):=lH ⟨by rw [<- hz]; exact heap_alloc_new _ _⟩
 have HS:=lH (((Since.refl w).alloc (.cells #[.int .i64 5,.string ⟨#[97]⟩] 38)).alloc (.cells C 26))
 have HA:=lH ((show AttsS (w.alloc (.cells #[.int .i64 5,.string ⟨#[97]⟩] 38)) (.slice (some ⟨w.heap.size,0,none⟩) 1 1) aA from SlR.lit w 2 1 (ac (5,⟨#[97]⟩)) rfl (by decide) #[.int .i64 5,.string ⟨#[97]⟩] rfl 38).since ((Since.refl _).alloc (.cells C 26)))
 rw [hC] at hr HS HA
 clear hC hz
 go_enter Tryd.func6,Tryd.ntmps6
 go_wp2_with fail
 refine (c1 _ (Kp.keep HT.out HS.out)).mono ?_
 rintro _ w1 ⟨y,rfl,hy,hq⟩
 obtain ⟨Ay,cy,rfl,-,-⟩:=hy.slice
 have HY:=lH hy
 replace hr:=lH (hr.out.step hq)
 replace HS:=lH (HS.out.step hq)
 replace HA:=lH (HA.out.since hq)
 clear hq hy
 dsimp only [noH]
 obtain ⟨Cp,hCp⟩:∃ C:Array Value,C = #[.int .i64 1,.string aK,.slice Ay 1 cy,.string ⟨#[]⟩,.string ⟨#[]⟩,.string ⟨#[]⟩,.string ⟨#[]⟩]:=⟨_,rfl⟩
 have hp:Hid (HR w1 w1.heap.size Cp 26 (w1.alloc (.cells Cp 26))):=lH ⟨heap_alloc_new w1 _⟩
 replace hr:=lH (hr_old hr.out (.cells Cp 26))
 replace HS:=lH (HS.out.alloc (.cells Cp 26))
 replace HA:=lH (HA.out.since ((Since.refl _).alloc (.cells Cp 26)))
 replace HY:=lH (HY.out.since ((Since.refl _).alloc (.cells Cp 26)))
 rw [hCp] at hp hr HS HA HY
 clear hCp
 go_wp2_with fail
 refine (c2 _ (Kp.keep HT.out HS.out)).mono ?_
 rintro _ w2 ⟨z,rfl,hz,hq⟩
 obtain ⟨Az,cz,rfl,-,-⟩:=hz.slice
 replace hr:=lH (hr.out.step hq)
 replace HS:=lH (HS.out.step hq)
 replace HA:=lH (HA.out.since hq)
 replace HY:=lH (HY.out.since hq)
 replace hp:=lH (hp.out.step hq)
 clear hq hz
 obtain ⟨g1,hg1⟩:∃ g,g = w1.heap.size:=⟨_,rfl⟩
 rw [<- hg1] at hp ⊢
 clear hg1
 dsimp only [noCd,noH]
 obtain ⟨Cq,hCq⟩:∃ C:Array Value,C = #[.int .i64 0,.string ⟨#[]⟩,.slice Az ([]:List A2).length cz,.string ⟨#[]⟩,.string ⟨#[]⟩,.string ⟨#[]⟩,.string ⟨#[]⟩]:=⟨_,rfl⟩
 replace hr:=lH (hr_old hr.out (.cells Cq 26))
 replace hp:=lH (hr_old hp.out (.cells Cq 26))
 replace HS:=lH (HS.out.alloc (.cells Cq 26))
 replace HA:=lH (HA.out.since ((Since.refl _).alloc (.cells Cq 26)))
 replace HY:=lH (HY.out.since ((Since.refl _).alloc (.cells Cq 26)))
 rw [hCq] at hp hr HS HA HY
 clear hCq
 dsimp only [noCd,List.length_nil] at hp hr HS HA HY ⊢
 have l0:=hr_cell hr.out 0 _ rfl
 have l1:=hr_cell hr.out 1 _ rfl
 have l2:=hr_cell hr.out 2 _ rfl
 have l3:=hr_cell hr.out 3 _ rfl
 have l4:=hr_cell hr.out 4 _ rfl
 have l5:=hr_cell hr.out 5 _ rfl
 have l6:=hr_cell hr.out 6 _ rfl
 have p0:=hr_cell hp.out 0 _ rfl
 have p1:=hr_cell hp.out 1 _ rfl
 have p2:=hr_cell hp.out 2 _ rfl
 have p3:=hr_cell hp.out 3 _ rfl
 have p4:=hr_cell hp.out 4 _ rfl
 have p5:=hr_cell hp.out 5 _ rfl
 have p6:=hr_cell hp.out 6 _ rfl
 replace HY:=lH (show AttsS _ (.slice Ay 1 cy) aA from HY.out)
 go_wp2_with fail
 refine c3.calls0 (Kp.keep HT.out HS.out) HA.out ?_
 intro w3 hq
 replace hr:=lH (hr.out.step hq)
 replace HS:=lH (HS.out.step hq)
 replace HA:=lH (HA.out.since hq)
 replace HY:=lH (HY.out.since hq)
 replace hp:=lH (hp.out.step hq)
 clear hq l0 l1 l2 l3 l4 l5 l6 p0 p1 p2 p3 p4 p5 p6
 have l0:=hr_cell hr.out 0 _ rfl
 have l1:=hr_cell hr.out 1 _ rfl
 have l2:=hr_cell hr.out 2 _ rfl
 have l3:=hr_cell hr.out 3 _ rfl
 have l4:=hr_cell hr.out 4 _ rfl
 have l5:=hr_cell hr.out 5 _ rfl
 have l6:=hr_cell hr.out 6 _ rfl
 have p0:=hr_cell hp.out 0 _ rfl
 have p1:=hr_cell hp.out 1 _ rfl
 have p2:=hr_cell hp.out 2 _ rfl
 have p3:=hr_cell hp.out 3 _ rfl
 have p4:=hr_cell hp.out 4 _ rfl
 have p5:=hr_cell hp.out 5 _ rfl
 have p6:=hr_cell hp.out 6 _ rfl
 go_wp2_with fail
 refine c4.calls0 (Kp.keep HT.out HS.out) HA.out ?_
 intro w4 hq
 replace hr:=lH (hr.out.step hq)
 replace HS:=lH (HS.out.step hq)
 replace HA:=lH (HA.out.since hq)
 replace HY:=lH (HY.out.since hq)
 replace hp:=lH (hp.out.step hq)
 clear hq l0 l1 l2 l3 l4 l5 l6 p0 p1 p2 p3 p4 p5 p6
 have l0:=hr_cell hr.out 0 _ rfl
 have l1:=hr_cell hr.out 1 _ rfl
 have l2:=hr_cell hr.out 2 _ rfl
 have l3:=hr_cell hr.out 3 _ rfl
 have l4:=hr_cell hr.out 4 _ rfl
 have l5:=hr_cell hr.out 5 _ rfl
 have l6:=hr_cell hr.out 6 _ rfl
 have p0:=hr_cell hp.out 0 _ rfl
 have p1:=hr_cell hp.out 1 _ rfl
 have p2:=hr_cell hp.out 2 _ rfl
 have p3:=hr_cell hp.out 3 _ rfl
 have p4:=hr_cell hp.out 4 _ rfl
 have p5:=hr_cell hp.out 5 _ rfl
 have p6:=hr_cell hp.out 6 _ rfl
 go_wp2_with fail
 refine c5.calls0 HY.out HA.out ?_
 intro w5 hq
 replace hr:=lH (hr.out.step hq)
 replace HS:=lH (HS.out.step hq)
 replace HA:=lH (HA.out.since hq)
 replace HY:=lH (HY.out.since hq)
 replace hp:=lH (hp.out.step hq)
 clear hq l0 l1 l2 l3 l4 l5 l6 p0 p1 p2 p3 p4 p5 p6
 have l0:=hr_cell hr.out 0 _ rfl
 have l1:=hr_cell hr.out 1 _ rfl
 have l2:=hr_cell hr.out 2 _ rfl
 have l3:=hr_cell hr.out 3 _ rfl
 have l4:=hr_cell hr.out 4 _ rfl
 have l5:=hr_cell hr.out 5 _ rfl
 have l6:=hr_cell hr.out 6 _ rfl
 have p0:=hr_cell hp.out 0 _ rfl
 have p1:=hr_cell hp.out 1 _ rfl
 have p2:=hr_cell hp.out 2 _ rfl
 have p3:=hr_cell hp.out 3 _ rfl
 have p4:=hr_cell hp.out 4 _ rfl
 have p5:=hr_cell hp.out 5 _ rfl
 have p6:=hr_cell hp.out 6 _ rfl
 go_wp2_with fail
 refine c6.calls0 (Kp.keep HT.out HS.out) HA.out ?_
 intro w6 hq
 replace hr:=lH (hr.out.step hq)
 replace HS:=lH (HS.out.step hq)
 replace HA:=lH (HA.out.since hq)
 replace HY:=lH (HY.out.since hq)
 replace hp:=lH (hp.out.step hq)
 clear hq l0 l1 l2 l3 l4 l5 l6 p0 p1 p2 p3 p4 p5 p6
 have l0:=hr_cell hr.out 0 _ rfl
 have l1:=hr_cell hr.out 1 _ rfl
 have l2:=hr_cell hr.out 2 _ rfl
 have l3:=hr_cell hr.out 3 _ rfl
 have l4:=hr_cell hr.out 4 _ rfl
 have l5:=hr_cell hr.out 5 _ rfl
 have l6:=hr_cell hr.out 6 _ rfl
 have p0:=hr_cell hp.out 0 _ rfl
 have p1:=hr_cell hp.out 1 _ rfl
 have p2:=hr_cell hp.out 2 _ rfl
 have p3:=hr_cell hp.out 3 _ rfl
 have p4:=hr_cell hp.out 4 _ rfl
 have p5:=hr_cell hp.out 5 _ rfl
 have p6:=hr_cell hp.out 6 _ rfl
 go_wp2_with fail
 refine c7.calls0 HA.out HY.out ?_
 intro w7 hq
 replace hr:=lH (hr.out.step hq)
 replace HS:=lH (HS.out.step hq)
 replace HA:=lH (HA.out.since hq)
 replace HY:=lH (HY.out.since hq)
 replace hp:=lH (hp.out.step hq)
 clear hq l0 l1 l2 l3 l4 l5 l6 p0 p1 p2 p3 p4 p5 p6
 have l0:=hr_cell hr.out 0 _ rfl
 have l1:=hr_cell hr.out 1 _ rfl
 have l2:=hr_cell hr.out 2 _ rfl
 have l3:=hr_cell hr.out 3 _ rfl
 have l4:=hr_cell hr.out 4 _ rfl
 have l5:=hr_cell hr.out 5 _ rfl
 have l6:=hr_cell hr.out 6 _ rfl
 have p0:=hr_cell hp.out 0 _ rfl
 have p1:=hr_cell hp.out 1 _ rfl
 have p2:=hr_cell hp.out 2 _ rfl
 have p3:=hr_cell hp.out 3 _ rfl
 have p4:=hr_cell hp.out 4 _ rfl
 have p5:=hr_cell hp.out 5 _ rfl
 have p6:=hr_cell hp.out 6 _ rfl
 go_wp2_with fail
 go_ret
 exact ⟨rfl,HS.out⟩
def AwK (f:Nat):Prop:=∀ w,Tab2 w -> Calls Tryd.prog f #[] w fun e w' => e = .returned (.bool true) /\ Since w w'
theorem AwK.calls0 {f:Nat} (h:AwK f) {w:World} (hT:Tab2 w) {R:Ending -> World -> Prop} (k:∀ w',Since w w' -> R (.returned (.bool true)) w'):Calls Tryd.prog f #[] w R :=
 (h w hT).mono fun _ _ ⟨he,hb⟩ => by subst he; exact k _ hb
theorem awake27:AwK 6:=by
 intro w hT
 have h1:=parse_k aT (by decide)
 have h2:=parse_k aS (by decide)
 rw [par_a] at h1
 rw [par_s] at h2
 exact awake_core aT aK aS rfl rfl rfl w hT h1 h2
end Rcd
namespace Rcd
open Att Kind Rec Atf Rw Flt Tlv
theorem joinC_flat (c:UInt8) (a:List UInt8) (l:List (List UInt8)):Sp.joinC c (a :: l) = a ++ l.flatMap (fun w => c :: w):=by
 induction l generalizing a with
 | nil => exact (List.append_nil a).symm
 | cons b l ih => rw [Sp.joinC_cons c _ _ (List.cons_ne_nil _ _),ih b,List.flatMap_cons]; rfl
theorem pcs_snoc (c x:UInt8) (l:List UInt8) (P:List (List UInt8)) (o:List UInt8) (h:Sp.pcs c l = P ++ [o]):Sp.pcs c (l ++ [x]) = if x = c then (P ++ [o]) ++ [[]] else P ++ [o ++ [x]]:=by
 induction l generalizing P o with
 | nil =>
   have h0:Sp.pcs c [] = [[]]:=rfl
   rw [h0] at h
   obtain ⟨rfl,rfl⟩:P = [] /\ o = []:=by
     cases P with
     | nil => simp at h; exact ⟨rfl,h⟩
     | cons y P => simp at h
   show Sp.pcs c [x] = _
   rw [Sp.pcs,h0]
   split <;> rfl
 | cons y l ih =>
   obtain ⟨Q,q,hq⟩:∃ Q q,Sp.pcs c l = Q ++ [q]:=by
     rcases List.eq_nil_or_concat (Sp.pcs c l) with h9 | ⟨Q,q,h9⟩
     · exact absurd h9 (Sp.pcs_ne c l)
     · exact ⟨Q,q,by rw [h9,List.concat_eq_append]⟩
   have h1:=ih Q q hq
   rw [Sp.pcs,hq] at h
   rw [List.cons_append,Sp.pcs,h1]
   by_cases hy:y = c
   · rw [if_pos hy] at h ⊢
     have h2:P ++ [o] = ([] :: Q) ++ [q]:=h.symm
     obtain ⟨rfl,h3⟩:=List.append_inj' h2 rfl
     cases h3
     by_cases hx:x = c <;> simp [hx]
   · rw [if_neg hy] at h ⊢
     cases Q with
     | nil =>
       have h2:P ++ [o] = [] ++ [y :: q]:=h.symm
       obtain ⟨rfl,h3⟩:=List.append_inj' h2 rfl
       cases h3
       by_cases hx:x = c <;> simp [hx]
     | cons z Q =>
       have h2:P ++ [o] = ((y :: z) :: Q) ++ [q]:=h.symm
       obtain ⟨rfl,h3⟩:=List.append_inj' h2 rfl
       cases h3
       by_cases hx:x = c <;> simp [hx]
def unNv (w:List UInt8):Int:=(unN w).getD 0
def rattF (w:List UInt8):A2:=(unNv ((Sp.pcs 61 w ++ [[]]).getD 0 []),Dig.unS ((Sp.pcs 61 w ++ [[]]).getD 1 []))
def rheadF (w:List UInt8):Hd:=(Dig.unS ((Sp.pcs 44 w.tail ++ [[],[],[]]).getD 0 []),Dig.unS ((Sp.pcs 44 w.tail ++ [[],[],[]]).getD 1 []),Dig.unS ((Sp.pcs 44 w.tail ++ [[],[],[]]).getD 2 []),Dig.unS ((Sp.pcs 44 w.tail ++ [[],[],[]]).getD 3 []))
def rst (p:List A2 × Hd) (w:List UInt8):List A2 × Hd:=if w.head? = some 64 then (p.1,rheadF w) else (p.1 ++ [rattF w],p.2)
def rcandW:List (List UInt8) -> Cd
 | w0 :: w1 :: ws => (namedV w0,Dig.unS w1,(ws.foldl rst ([],noH)).1,(ws.foldl rst ([],noH)).2)
 | [w0] => (namedV w0,⟨#[]⟩,[],noH)
 | [] => noCd
def rcandF (t:List UInt8):Cd:=rcandW (Sp.pcs 32 t)
theorem unS_hx (s:ByteArray):Dig.unS (hx s) = s:=ba_ext (unS_hex _)
theorem rattF_att (a:A2) (h:-9223372036854775808 <= a.1 /\ a.1 <= 9223372036854775807):rattF (attW a) = a:=by
 have e:Sp.pcs 61 (attW a) = [Dig.numS a.1,hx a.2]:=by
   unfold attW
   rw [Sp.pcs_cut 61 _ _ (num_61 a.1),Sp.pcs_one 61 _ (hex_61 a.2)]
 unfold rattF
 rw [e]
 show ((unN (Dig.numS a.1)).getD 0,Dig.unS (hx a.2)) = a
 rw [unN_num a.1 h,unS_hx]
 rfl
theorem rheadF_head (u m v e:ByteArray):rheadF (headW u m v e) = (u,m,v,e):=by
 have e1:Sp.pcs 44 (headW u m v e).tail = [hx u,hx m,hx v,hx e]:=head_pcs u m v e
 unfold rheadF
 rw [e1]
 show (Dig.unS (hx u),Dig.unS (hx m),Dig.unS (hx v),Dig.unS (hx e)) = _
 rw [unS_hx,unS_hx,unS_hx,unS_hx]
theorem fold_atts (L:List A2) (h:∀ a ∈ L,-9223372036854775808 <= a.1 /\ a.1 <= 9223372036854775807) (M:List A2) (H:Hd):(L.map attW).foldl rst (M,H) = (M ++ L,H):=by
 induction L generalizing M with
 | nil => rw [List.append_nil]; rfl
 | cons a L ih =>
   rw [List.map_cons,List.foldl_cons,show rst (M,H) (attW a) = (M ++ [a],H) by
     unfold rst
     rw [if_neg (att_head a),rattF_att a (h a (List.mem_cons_self ..))],ih (fun b hb => h b (List.mem_cons_of_mem _ hb)),List.append_assoc]
   rfl
theorem rcand_text {K:Int} {k:ByteArray} {L:List A2} (u m v e:ByteArray) (h:recE K k L = 0):rcandF (Sp.joinC 32 (wordsW K k L u m v e)) = (K,k,L,(u,m,v,e)):=by
 obtain ⟨hK,-,hL⟩:=rec_kind h
 unfold rcandF
 rw [words_split K k L u m v e hK]
 unfold wordsW
 by_cases hb:bareB u m v e = true
 · rw [if_pos hb,List.append_nil,rcandW,fold_atts L (tags_in hL),named_row K hK,unS_hx,bare_eq hb]
   rfl
 · rw [if_neg hb,rcandW,List.foldl_append,fold_atts L (tags_in hL),named_row K hK,unS_hx]
   show (K,k,(rst ([] ++ L,noH) (headW u m v e)).1,(rst ([] ++ L,noH) (headW u m v e)).2) = _
   unfold rst
   rw [if_pos (show (headW u m v e).head? = some 64 from rfl),rheadF_head]
   rfl
abbrev recC (c:Cd):Int:=recE c.1 c.2.1 c.2.2.1
theorem par_ref_yes (t:ByteArray) (h1:recC (rcandF t.data.toList) = 0) (h2:textC (rcandF t.data.toList) = t):parV t = (rcandF t.data.toList,0):=by
 have h3:=par_text (rcandF t.data.toList).2.2.2.1 (rcandF t.data.toList).2.2.2.2.1 (rcandF t.data.toList).2.2.2.2.2.1 (rcandF t.data.toList).2.2.2.2.2.2 h1
 unfold textC at h2
 rw [h2] at h3
 exact h3
theorem par_ref_no (t:ByteArray) (h:¬ (recC (rcandF t.data.toList) = 0 /\ textC (rcandF t.data.toList) = t)):parV t = (noCd,5):=by
 rcases par_no t with h0 | h0
 · exfalso
   obtain ⟨h1,h2⟩:=par_ok h0
   have h3:recC (parV t).1 = 0:=by
     by_cases h4:recC (parV t).1 = 0
     · exact h4
     · exfalso
       have h5:t = ⟨#[]⟩:=by
         rw [<- h1]
         unfold textC textV
         rw [if_neg h4]
       rw [h5] at h2
       cases h2
   have h6:=text_list (parV t).1.2.2.2.1 (parV t).1.2.2.2.2.1 (parV t).1.2.2.2.2.2.1 (parV t).1.2.2.2.2.2.2 h3
   have h7:=rcand_text (parV t).1.2.2.2.1 (parV t).1.2.2.2.2.1 (parV t).1.2.2.2.2.2.1 (parV t).1.2.2.2.2.2.2 h3
   have h8:textV (parV t).1.1 (parV t).1.2.1 (parV t).1.2.2.1 (parV t).1.2.2.2.1 (parV t).1.2.2.2.2.1 (parV t).1.2.2.2.2.2.1 (parV t).1.2.2.2.2.2.2 = t:=h1
   rw [h8] at h6
   rw [<- h6] at h7
   have h9:rcandF t.data.toList = (parV t).1:=h7
   exact h (by rw [h9]; exact ⟨h3,h1⟩)
 · exact h0
theorem pcs_le (c:UInt8) (l x:List UInt8) (h:x ∈ Sp.pcs c l):x.length <= l.length:=by
 have h1:∀ (L:List (List UInt8)),x ∈ L -> x.length <= (Sp.joinC c L).length:=by
   intro L
   induction L with
   | nil => intro h; cases h
   | cons a L ih =>
     intro hx
     rw [joinC_flat,List.length_append]
     rcases List.mem_cons.1 hx with rfl | hx
     · omega
     · cases L with
       | nil => cases hx
       | cons b L =>
         have h2:=ih hx
         rw [joinC_flat,List.length_append] at h2
         rw [List.flatMap_cons,List.length_append,List.length_cons]
         omega
 have h2:=h1 _ h
 rwa [Sp.join_pcs] at h2
end Rcd
namespace Rcd
open Att Kind Rec Atf Rw Flt Tlv
theorem byte_cut (t:ByteArray) (k:Nat) (h:k < t.size):t.extract k (k + 1) = bs [t[k]]:=by
 apply ba_ext
 rw [ByteArray.data_extract,Array.toList_extract,list_bs]
 unfold List.extract
 rw [show k + 1 - k = 1 by omega,List.take_one,List.head?_drop,List.getElem?_eq_getElem (by simpa using h)]
 rfl
theorem take_byte (t:ByteArray) (k:Nat) (h:k < t.size):t.data.toList.take (k + 1) = t.data.toList.take k ++ [t[k]]:=by
 rw [List.take_succ_eq_append_getElem (by simpa using h)]
 rfl
set_option maxHeartbeats 4000000 in
theorem parted_mk (t:ByteArray) (c:UInt8) (hm:t.size <= 100000) (w:World):Calls Tryd.prog 26 #[.string t,.int .u8 (c.toNat:Int)] w fun e w' => ∃ v L,e = .returned v /\ SRow w w' v L /\ L.map (·.data.toList) = Sp.pcs c t.data.toList /\ (∀ x ∈ L,x.size <= t.size) /\ Since w w':=by
 have HM:=lH hm
 obtain ⟨n,hn⟩:∃ n,n = t.size:=⟨_,rfl⟩
 have HN:=lH hn
 have HZ:Hid (∀ L:List ByteArray,L.map (·.data.toList) = Sp.pcs c t.data.toList -> ∀ x ∈ L,x.size <= t.size):=lH fun L hL x hx => pcs_le c t.data.toList x.data.toList (by rw [<- hL]; exact List.mem_map.2 ⟨x,hx,rfl⟩)
 clear hm hn
 go_enter Tryd.func26,Tryd.ntmps26
 go_wp2_with fail
 go_loopw [5,6,7] (fun V o i wr => ∃ (k:Nat) (P:List ByteArray) (S:ByteArray),k <= t.size /\ i = .int .i64 (k:Int) /\ o = .string S /\ Hid (Sp.pcs c (t.data.toList.take k) = P.map (·.data.toList) ++ [S.data.toList]) /\ Hid (P.length <= k) /\ Hid (S.size <= k) /\ Hid (SRow w wr V P) /\ Hid (Since w wr)) (fun _ _ i _ => t.size - (intOf i).toNat)
 case atStart => exact ⟨0,[],⟨#[]⟩,Nat.zero_le _,rfl,rfl,lH rfl,lH (Nat.le_refl _),lH (Nat.le_refl _),lH (SRow.nil _ _),lH (Since.refl w)⟩
 case round =>
   obtain ⟨k,P,S,hk,rfl,rfl,HP,HL,HB,HR,HS⟩:=hrel
   obtain ⟨VA,vc,rfl,-⟩:=HR.out.val
   by_cases hlt:k < t.size
   · have HTB:=lH (take_byte t k hlt)
     have HBC:=lH (byte_cut t k hlt)
     have i1:(0:Int) <= (k:Int):=by omega
     have i2:(k:Int) < (t.size:Int):=by omega
     have e1:IntKind.i64.wrap ((k:Int) + 1) = ((k + 1:Nat):Int):=by rw [IntWalk.i64_in _ (by have:=HM.out; omega)]; omega
     have HSN:=lH (pcs_snoc c t[k] (t.data.toList.take k) _ _ HP.out)
     by_cases hc:t[k] = c
     · have t1:((t[k].toNat:Int) == (c.toNat:Int)) = true:=by rw [hc]; exact beq_self_eq_true _
       have HP2:Hid (Sp.pcs c (t.data.toList.take (k + 1)) = (P ++ [S]).map (·.data.toList) ++ [(⟨#[]⟩:ByteArray).data.toList]):=lH (by
         rw [HTB.out,HSN.out,if_pos hc,List.map_append]
         rfl)
       have HB1:=lH (show P.length + 1 <= maxLen by have:=HL.out; have:=HM.out; unfold maxLen; omega)
       have HB2:=lH (show (P.length + 1) * 16 <= 140737488355328 by have:=HL.out; have:=HM.out; omega)
       clear hc HBC
       go_wp2_with (at_builtin; refine app_rows elemS rfl _ _ (by rfl) w wr _ rfl [] [] _ P.length _ (by rfl) HR.out HS.out #[.string S] 1 1 (by rfl) rfl (s_one S) HB1.out HB2.out ?_; intro V2 w4 HQ2 HT2 _)
       have HF:Hid (SRow w w4 V2 (P ++ [S])):=lH (SRow.app S HQ2)
       have HS4:=lH HT2
       clear HQ2 HT2
       go_wp2_with fail
       go_roundw
       case rel => exact ⟨k + 1,P ++ [S],⟨#[]⟩,hlt,by go_num,rfl,HP2,lH (by rw [List.length_append]; exact Nat.succ_le_succ HL.out),lH (Nat.zero_le _),HF,HS4⟩
       case measure => (simp [intOf] <;> omega)
     · have t1:((t[k].toNat:Int) == (c.toNat:Int)) = false:=beq_eq_false_iff_ne.2 (fun h => hc (UInt8.toNat_inj.1 (by omega)))
       have HZ1:Hid ((S ++ t.extract k (k + 1)).size = S.size + 1):=lH (by
         have h8:=congrArg List.length (app_list S (t.extract k (k + 1)))
         rw [HBC.out,List.length_append,list_bs] at h8
         rw [HBC.out]
         exact h8)
       have HP2:Hid (Sp.pcs c (t.data.toList.take (k + 1)) = P.map (·.data.toList) ++ [(S ++ t.extract k (k + 1)).data.toList]):=lH (by
         rw [HTB.out,HSN.out,if_neg hc,app_list,HBC.out,list_bs])
       have z1:¬ 9223372036854775807 < S.size + (t.extract k (k + 1)).size:=by
         rw [HBC.out,size_bs]
         have:=HB.out
         have:=HM.out
         show ¬ 9223372036854775807 < S.size + 1
         omega
       have n1:((k + 1:Nat):Int).toNat = k + 1:=by omega
       have z2:((k + 1:Nat):Int) <= (t.size:Int):=by omega
       have z3:(k:Int) <= ((k + 1:Nat):Int):=by omega
       have z4:(0:Int) <= ((k + 1:Nat):Int):=by omega
       clear hc HBC
       go_wp2_with fail
       go_roundw
       case rel => exact ⟨k + 1,P,S ++ t.extract k (k + 1),hlt,by go_num,rfl,HP2,lH (Nat.le_succ_of_le HL.out),lH (by rw [HZ1.out]; exact Nat.succ_le_succ HB.out),HR,HS⟩
       case measure => (simp [intOf] <;> omega)
   · obtain rfl:k = t.size:=by omega
     have HB1:=lH (show P.length + 1 <= maxLen by have:=HL.out; have:=HM.out; unfold maxLen; omega)
     have HB2:=lH (show (P.length + 1) * 16 <= 140737488355328 by have:=HL.out; have:=HM.out; omega)
     have HE:Hid ((P ++ [S]).map (·.data.toList) = Sp.pcs c t.data.toList):=lH (by
       have h9:=HP.out
       rw [List.take_of_length_le (by simp)] at h9
       rw [h9,List.map_append]
       rfl)
     have HE2:=lH (HZ.out _ HE.out)
     clear HZ
     go_wp2_with (at_builtin; refine app_rows elemS rfl _ _ (by rfl) w wr _ rfl [] [] _ P.length _ (by rfl) HR.out HS.out #[.string S] 1 1 (by rfl) rfl (s_one S) HB1.out HB2.out ?_; intro V2 w4 HQ2 HT2 _)
     have HF:Hid (SRow w w4 V2 (P ++ [S])):=lH (SRow.app S HQ2)
     have HS4:=lH HT2
     clear HQ2 HT2
     go_wp2_with fail
     go_ret
     exact ⟨_,rfl,P ++ [S],HF.out,HE.out,HE2.out,HS4.out⟩
end Rcd
namespace Rcd
open Att Kind Rec Atf Rw Flt Tlv
def prefT (K:Int) (k:ByteArray) (L:List A2):ByteArray:=bs ((rowOf K).1 ++ 32 :: hx k ++ L.flatMap fun a => 32 :: attW a)
theorem pref_text {K:Int} {k:ByteArray} {L:List A2} (u m v e:ByteArray) (h:recE K k L = 0):textV K k L u m v e = if bareB u m v e = true then prefT K k L else bs ((prefT K k L).data.toList ++ 32 :: headW u m v e):=by
 unfold textV prefT wordsW
 rw [if_pos h,joinC_flat,List.flatMap_cons,List.flatMap_append,List.flatMap_map,list_bs]
 by_cases hb:bareB u m v e = true
 · rw [if_pos hb,if_pos hb]
   apply congrArg bs
   simp
 · rw [if_neg hb,if_neg hb]
   apply congrArg bs
   simp
theorem pref_snoc (K:Int) (k:ByteArray) (L:List A2) (j:Nat) (a:A2) (h:L[j]? = some a):prefT K k (L.take (j + 1)) = prefT K k (L.take j) ++ ⟨#[32]⟩ ++ bs (Dig.numS a.1) ++ ⟨#[61]⟩ ++ bs (hx a.2):=by
 apply ba_ext
 rw [app_list,app_list,app_list,app_list]
 unfold prefT
 rw [Att.take_snoc L j a h,List.flatMap_append,list_bs,list_bs,list_bs,list_bs]
 show _ = _ ++ [32] ++ _ ++ [61] ++ _
 simp [attW]
theorem num_len (n:Int):(bs (Dig.numS n)).size <= 21:=by
 rw [size_bs]
 have h3:=digs_len 20 n.natAbs
 unfold Dig.numS
 split
 · rw [List.length_cons]; omega
 · omega
theorem pref_size (K:Int) (k:ByteArray) (L:List A2) (hk:k.size <= 100000) (hL:∀ a ∈ L,numOk a):(prefT K k L).size <= 300000 + 300000 * L.length:=by
 have h1:(prefT K k L).size = ((rowOf K).1 ++ 32 :: hx k ++ L.flatMap fun a => 32 :: attW a).length:=by unfold prefT; rw [size_bs]
 have h2:=name_size K
 rw [size_bs] at h2
 have h3:=hex_size k
 rw [size_bs] at h3
 have h4:(L.flatMap fun a => 32 :: attW a).length <= 300000 * L.length:=by
   clear h1
   induction L with
   | nil => exact Nat.zero_le _
   | cons a L ih =>
     have h5:=ih (fun b hb => hL b (List.mem_cons_of_mem _ hb))
     have h6:=num_len a.1
     rw [size_bs] at h6
     have h7:=hex_size a.2
     rw [size_bs] at h7
     have h8:=(hL a (List.mem_cons_self ..)).2
     have h9:(attW a).length = (Dig.numS a.1).length + ((hx a.2).length + 1):=by unfold attW; rw [List.length_append,List.length_cons]
     rw [List.flatMap_cons,List.length_append,List.length_cons,List.length_cons,h9]
     omega
 rw [h1,List.length_append,List.length_append,List.length_cons]
 omega
set_option maxHeartbeats 8000000 in
theorem rtext_no (K:Int) (k u m v e:ByteArray) (L:List A2) (E:Int) (hE:(E != 0) = true) (c1:RdR 10 L (fun x => #[rv K k u m v e x]) (.int .i64 E)):RdR 14 L (fun x => #[rv K k u m v e x]) (.string ⟨#[]⟩):=by
 intro w x hT hx
 obtain ⟨A,q,rfl,hq1,hq2⟩:=hx.slice
 have hp:=lH (hb_new w Tab2 hT #[.int .i64 K,.string k,.slice A L.length q,.string u,.string m,.string v,.string e] 26)
 have HX:=lH (hx.since hp.out.since)
 have HS:=lH hp.out.since
 obtain ⟨_,m0,m1,m2,m3,m4,m5,m6⟩:=hb7 hp
 clear hx hT
 go_enter Tryd.func14,Tryd.ntmps14
 go_wp2_with fail
 clear m0 m1 m2 m3 m4 m5 m6
 refine (c1.calls0 hp.out.tabs HX.out) ?_
 intro w1 h1
 replace hp:=lH (hp.out.step (Up.up h1))
 replace HX:=lH (HX.out.since (Up.up h1))
 replace HS:=lH (HS.out.step (Up.up h1))
 clear h1
 go_wp2_with fail
 go_ret
 exact ⟨rfl,HS.out⟩
theorem cat_ex (a b:ByteArray) (N:Nat) (h:a.size + b.size <= N):∃ c,a ++ b = c /\ c.size <= N:=⟨_,rfl,by rw [ByteArray.size_append]; exact h⟩
set_option maxHeartbeats 16000000 in
theorem rtext_yes (K:Int) (k u m v e:ByteArray) (L:List A2) (c1:RdR 10 L (fun x => #[rv K k u m v e x]) (.int .i64 0)) (hL:∀ a ∈ L,numOk a) (hn:L.length <= 100) (hk:k.size <= 100000) (b9:Bool) (c4:RdR 12 L (fun x => #[rv K k u m v e x]) (.bool b9))
   (hu hm hv he nm hkk:ByteArray) (zu:hu.size <= 100000) (zm:hm.size <= 100000) (zv:hv.size <= 100000) (ze:he.size <= 100000) (zn:nm.size <= 1000) (zk:hkk.size <= 200000)
   (c2:Mak 27 #[.int .i64 K] (.string nm)) (c3:Mak 41 #[.string k] (.string hkk)) (c5:Mak 41 #[.string u] (.string hu)) (c6:Mak 41 #[.string m] (.string hm)) (c7:Mak 41 #[.string v] (.string hv)) (c8:Mak 41 #[.string e] (.string he))
   (h0:nm ++ ⟨#[32]⟩ ++ hkk = prefT K k []) (X:ByteArray) (hX:X = if b9 = true then prefT K k L else prefT K k L ++ ⟨#[32,64]⟩ ++ hu ++ ⟨#[44]⟩ ++ hm ++ ⟨#[44]⟩ ++ hv ++ ⟨#[44]⟩ ++ he):RdR 14 L (fun x => #[rv K k u m v e x]) (.string X):=by
 have HL:=lH hL
 have HX9:=lH hX
 have H0:=lH h0
 have HN:=lH hn
 have HK:=lH hk
 have HSZ:=lH (fun j => pref_size K k (L.take j) hk (fun a ha => hL a (List.mem_of_mem_take ha)))
 have HSS:=lH (fun j a h => pref_snoc K k L j a h)
 have HCN:Hid (∀ a ∈ L,Mak 42 #[.int .i64 a.1] (.string (bs (Dig.numS a.1))) /\ Mak 41 #[.string a.2] (.string (bs (hx a.2))) /\ (bs (Dig.numS a.1)).size <= 21 /\ (bs (hx a.2)).size <= 200000):=lH fun a ha => ⟨RefDig.num_any a.1 (hL a ha).1 _ rfl,fun W => RefDig.hex_any a.2 W (by have:=(hL a ha).2; omega) _ rfl,num_len a.1,by rw [hex_size]; have:=(hL a ha).2; omega⟩
 clear hL hX h0 hk hn
 intro w x hT hx
 obtain ⟨A,q,rfl,hq1,hq2⟩:=hx.slice
 obtain ⟨n,hn⟩:∃ n,n = L.length:=⟨_,rfl⟩
 have HNN:=lH hn
 have hnb:n <= 100:=by rw [hn]; exact HN.out
 rw [<- hn] at hx ⊢
 have hp:=lH (hb_new w Tab2 hT #[.int .i64 K,.string k,.slice A n q,.string u,.string m,.string v,.string e] 26)
 have HX:=lH (hx.since hp.out.since)
 have HS:=lH hp.out.since
 obtain ⟨_,m0,m1,m2,m3,m4,m5,m6⟩:=hb7 hp
 clear hx hT hq1 hq2 hn
 go_enter Tryd.func14,Tryd.ntmps14
 go_wp2_with fail
 clear m0 m1 m2 m3 m4 m5 m6
 refine c1.calls0 hp.out.tabs (by rw [HNN.out] at HX ⊢; exact HX.out) ?_
 intro w1 hq
 replace hp:=lH (hp.out.step hq)
 replace HX:=lH (HX.out.since hq)
 replace HS:=lH (HS.out.step hq)
 clear hq
 go_upto_region 3 with fail
 obtain ⟨_,m0,m1,-,-,-,-,-⟩:=hb7 hp
 have hHeld:=And.intro m0 m1
 clear m0 m1
 have hq:=Since.drew (Since.refl w1)
 replace hp:=lH (hp.out.step hq)
 replace HX:=lH (HX.out.since hq)
 replace HS:=lH (HS.out.step hq)
 replace hHeld:=And.intro ((Below.cell hq (p:=⟨w.heap.size,0,none⟩) (lt_cell hHeld.1)).trans hHeld.1) ((Below.cell hq (p:=⟨w.heap.size,1,none⟩) (lt_cell hHeld.2)).trans hHeld.2)
 have z1:¬ 9223372036854775807 < nm.size + 1:=by omega
 obtain ⟨S1,a1,y1⟩:=cat_ex nm ⟨#[32]⟩ 1001 (by show nm.size + 1 <= 1001; omega)
 obtain ⟨S2,a2,y2⟩:=cat_ex S1 hkk 300000 (by omega)
 have z2:¬ 9223372036854775807 < S1.size + hkk.size:=by omega
 have HS2:Hid (S2 = prefT K k (L.take 0)):=lH (by rw [List.take_zero,<- H0.out,a1,a2])
 refine RegW.start (fun W' => W'.cell? ⟨w.heap.size,0,none⟩ = some (.int .i64 K) /\ W'.cell? ⟨w.heap.size,1,none⟩ = some (.string k)) 8 (by kernel_rfl) hHeld (fun _ => ?_)
 generalize w1.drew = wa at hp HX HS hHeld ⊢
 clear hq
 refine RegW.tk 0 rfl ?_
 try simp only [RegW.p]
 refine RegW.tk 1 rfl ?_
 try simp only [RegW.p]
 refine RegW.tk 4 rfl ?_
 try simp only [RegW.p]
 refine RegW.tk 5 rfl ?_
 try simp only [RegW.p]
 refine RegW.only (i:=2) rfl (by kernel_rfl) (fun K9 hK => ?_)
 go_simp
 refine c2.calls0 ?_
 intro wb hq
 replace hp:=lH (hp.out.step hq)
 replace HX:=lH (HX.out.since hq)
 replace HS:=lH (HS.out.step hq)
 replace hHeld:=And.intro ((Below.cell hq (p:=⟨w.heap.size,0,none⟩) (lt_cell hHeld.1)).trans hHeld.1) ((Below.cell hq (p:=⟨w.heap.size,1,none⟩) (lt_cell hHeld.2)).trans hHeld.2)
 clear hq
 refine hK.out _ _ hHeld (fun _ => ?_)
 clear hK K9
 try simp only [RegW.p]
 refine RegW.tk (v:=.string S1) 3 rfl ?_
 try simp only [RegW.p]
 refine RegW.only (i:=6) rfl (by kernel_rfl) (fun K9 hK => ?_)
 go_simp
 refine c3.calls0 ?_
 intro wb hq
 replace hp:=lH (hp.out.step hq)
 replace HX:=lH (HX.out.since hq)
 replace HS:=lH (HS.out.step hq)
 replace hHeld:=And.intro ((Below.cell hq (p:=⟨w.heap.size,0,none⟩) (lt_cell hHeld.1)).trans hHeld.1) ((Below.cell hq (p:=⟨w.heap.size,1,none⟩) (lt_cell hHeld.2)).trans hHeld.2)
 clear hq
 refine hK.out _ _ hHeld (fun _ => ?_)
 clear hK K9
 try simp only [RegW.p]
 refine RegW.tk (v:=.string S2) 7 rfl ?_
 try simp only [RegW.p]
 refine RegW.last rfl (by kernel_rfl) (by kernel_rfl) ?_
 clear hHeld a1 a2 z1 z2 y1 y2
 go_wp2_with fail
 go_loopw [3,4] (fun s i wr => ∃ (j:Nat) (S:ByteArray),j <= n /\ i = .int .i64 (j:Int) /\ s = .string S /\ Hid (S = prefT K k (L.take j)) /\ Hid (HB w Tab2 w.heap.size #[.int .i64 K,.string k,.slice A n q,.string u,.string m,.string v,.string e] wr) /\ Hid (AttsS wr (.slice A n q) L) /\ Hid (Since w wr)) (fun _ i _ => n - (intOf i).toNat)
 case atStart => exact ⟨0,S2,Nat.zero_le _,rfl,rfl,HS2,hp,HX,HS⟩
 case round =>
   clear hp HX HS HS2
   obtain ⟨j,S,hj,rfl,rfl,HSP,hp,HX,HS⟩:=hrel
   have HJ:Hid (S.size <= 300000 + 300000 * 100):=lH (by
     have h1:=HSZ.out j
     rw [<- HSP.out,List.length_take] at h1
     have h2:=HN.out
     have h3:min j L.length <= 100:=by omega
     have h4:300000 * min j L.length <= 300000 * 100:=Nat.mul_le_mul_left _ h3
     omega)
   by_cases hlt:j < n
   · obtain ⟨⟨t,y⟩,hs⟩:∃ s,L[j]? = some s:=⟨_,List.getElem?_eq_getElem (by rw [<- HNN.out]; exact hlt)⟩
     obtain ⟨b,o,c9,hv',f1,f2,f3,f4⟩:=AttsS.form HX.out (by rw [<- HNN.out]; omega)
     obtain ⟨rfl,-,rfl⟩:=Value.slice.inj hv'
     obtain ⟨_,-,-,m2,-,-,-,-⟩:=hb7 hp
     have i1:(0:Int) <= (j:Int):=by omega
     have i2:(j:Int) < (n:Int):=by omega
     obtain ⟨d1,d2,d3,d4⟩:=HCN.out (t,y) (List.mem_of_getElem? hs)
     dsimp only at d1 d2 d3 d4
     have HNX:=lH (HSS.out j _ hs)
     dsimp only at HNX
     obtain ⟨N1,hN1⟩:∃ N1,N1 = bs (Dig.numS t):=⟨_,rfl⟩
     obtain ⟨N2,hN2⟩:∃ N2,N2 = bs (hx y):=⟨_,rfl⟩
     rw [<- hN1] at d1 d3 HNX
     rw [<- hN2] at d2 d4 HNX
     have hJ:=HJ.out
     obtain ⟨S1,a1,y1⟩:=cat_ex S ⟨#[32]⟩ 40000000 (by show S.size + 1 <= 40000000; omega)
     obtain ⟨S2,a2,y2⟩:=cat_ex S1 N1 50000000 (by omega)
     obtain ⟨S3,a3,y3⟩:=cat_ex S2 ⟨#[61]⟩ 60000000 (by show S2.size + 1 <= 60000000; omega)
     obtain ⟨S4,a4,y4⟩:=cat_ex S3 N2 70000000 (by omega)
     have HE:Hid (S4 = prefT K k (L.take (j + 1))):=lH (by rw [HNX.out,<- HSP.out,a1,a2,a3,a4])
     have z1:¬ 9223372036854775807 < S.size + 1:=by omega
     have z2:¬ 9223372036854775807 < S1.size + N1.size:=by omega
     have z3:¬ 9223372036854775807 < S2.size + 1:=by omega
     have z4:¬ 9223372036854775807 < S3.size + N2.size:=by omega
     have hHeld:=And.intro m2 (And.intro (f4 j _ hs).1 (f4 j _ hs).2)
     dsimp only at hHeld
     clear hN1 hN2 hJ d3 d4 y1 y2 y3 y4 f1 f2 f3 f4 hs hv' HNX HSP HJ
     go_upto_region 7 with fail
     clear m2
     have hq:=Since.drew (Since.refl wr)
     replace hp:=lH (hp.out.step hq)
     replace HX:=lH (HX.out.since hq)
     replace HS:=lH (HS.out.step hq)
     replace hHeld:=And.intro ((Below.cell hq (p:=⟨w.heap.size,2,none⟩) (lt_cell hHeld.1)).trans hHeld.1) (And.intro ((Below.cell hq (p:=⟨b,o + j * 2,none⟩) (lt_cell hHeld.2.1)).trans hHeld.2.1) ((Below.cell hq (p:=⟨b,o + j * 2 + 1,none⟩) (lt_cell hHeld.2.2)).trans hHeld.2.2))
     refine RegW.start (fun W' => W'.cell? ⟨w.heap.size,2,none⟩ = some (.slice (some ⟨b,o,none⟩) n q) /\ W'.cell? ⟨b,o + j * 2,none⟩ = some (.int .i64 t) /\ W'.cell? ⟨b,o + j * 2 + 1,none⟩ = some (.string y)) 19 (by kernel_rfl) hHeld (fun _ => ?_)
     generalize wr.drew = wa at hp HX HS hHeld ⊢
     clear hq
     refine RegW.tk 0 rfl ?_
     try simp only [RegW.p]
     refine RegW.tk (v:=.string S1) 1 rfl ?_
     try simp only [RegW.p]
     refine RegW.tk 2 rfl ?_
     try simp only [RegW.p]
     refine RegW.tk 3 rfl ?_
     try simp only [RegW.p]
     refine RegW.tk 4 rfl ?_
     try simp only [RegW.p]
     refine RegW.tk 5 rfl ?_
     try simp only [RegW.p]
     refine RegW.tk 6 rfl ?_
     try simp only [RegW.p]
     refine RegW.tk 7 rfl ?_
     try simp only [RegW.p]
     refine RegW.tk 11 rfl ?_
     try simp only [RegW.p]
     refine RegW.tk 12 rfl ?_
     try simp only [RegW.p]
     refine RegW.tk 13 rfl ?_
     try simp only [RegW.p]
     refine RegW.tk 14 rfl ?_
     try simp only [RegW.p]
     refine RegW.tk 15 rfl ?_
     try simp only [RegW.p]
     refine RegW.tk 16 rfl ?_
     try simp only [RegW.p]
     refine RegW.only (i:=8) rfl (by kernel_rfl) (fun K9 hK => ?_)
     go_simp
     refine d1.calls0 ?_
     intro wb hq
     replace hp:=lH (hp.out.step hq)
     replace HX:=lH (HX.out.since hq)
     replace HS:=lH (HS.out.step hq)
     replace hHeld:=And.intro ((Below.cell hq (p:=⟨w.heap.size,2,none⟩) (lt_cell hHeld.1)).trans hHeld.1) (And.intro ((Below.cell hq (p:=⟨b,o + j * 2,none⟩) (lt_cell hHeld.2.1)).trans hHeld.2.1) ((Below.cell hq (p:=⟨b,o + j * 2 + 1,none⟩) (lt_cell hHeld.2.2)).trans hHeld.2.2))
     clear hq
     refine hK.out _ _ hHeld (fun _ => ?_)
     clear hK K9
     try simp only [RegW.p]
     refine RegW.tk (v:=.string S2) 9 rfl ?_
     try simp only [RegW.p]
     refine RegW.tk (v:=.string S3) 10 rfl ?_
     try simp only [RegW.p]
     refine RegW.only (i:=17) rfl (by kernel_rfl) (fun K9 hK => ?_)
     go_simp
     refine d2.calls0 ?_
     intro wb hq
     replace hp:=lH (hp.out.step hq)
     replace HX:=lH (HX.out.since hq)
     replace HS:=lH (HS.out.step hq)
     replace hHeld:=And.intro ((Below.cell hq (p:=⟨w.heap.size,2,none⟩) (lt_cell hHeld.1)).trans hHeld.1) (And.intro ((Below.cell hq (p:=⟨b,o + j * 2,none⟩) (lt_cell hHeld.2.1)).trans hHeld.2.1) ((Below.cell hq (p:=⟨b,o + j * 2 + 1,none⟩) (lt_cell hHeld.2.2)).trans hHeld.2.2))
     clear hq
     refine hK.out _ _ hHeld (fun _ => ?_)
     clear hK K9
     try simp only [RegW.p]
     refine RegW.tk (v:=.string S4) 18 rfl ?_
     try simp only [RegW.p]
     refine RegW.last rfl (by kernel_rfl) (by kernel_rfl) ?_
     clear hHeld a1 a2 a3 a4 z1 z2 z3 z4
     go_wp2_with fail
     go_roundw
     case rel => exact ⟨j + 1,S4,hlt,by go_num,rfl,HE,hp,HX,HS⟩
     case measure => (simp [intOf] <;> omega)
   · obtain rfl:n = j:=by omega
     have HSF:Hid (S = prefT K k L):=lH (by have h9:=HSP.out; rw [HNN.out,List.take_length] at h9; exact h9)
     obtain ⟨_,m0,m1,m2,m3,m4,m5,m6⟩:=hb7 hp
     clear HSP
     go_wp2_with fail
     refine c4.calls0 hp.out.tabs (by rw [HNN.out] at HX ⊢; exact HX.out) ?_
     intro w2 hq
     replace hp:=lH (hp.out.step hq)
     replace HX:=lH (HX.out.since hq)
     replace HS:=lH (HS.out.step hq)
     clear hq m0 m1 m2 m3 m4 m5 m6
     cases b9 with
     | true =>
       have HF:Hid (X = S):=lH (by rw [HX9.out,if_pos rfl,HSF.out])
       go_wp2_with fail
       go_ret
       rw [HF.out]
       exact ⟨rfl,HS.out⟩
     | false =>
       have hJ:=HJ.out
       obtain ⟨S1,a1,y1⟩:=cat_ex S ⟨#[32,64]⟩ 40000000 (by show S.size + 2 <= 40000000; omega)
       obtain ⟨S2,a2,y2⟩:=cat_ex S1 hu 50000000 (by omega)
       obtain ⟨S3,a3,y3⟩:=cat_ex S2 ⟨#[44]⟩ 60000000 (by show S2.size + 1 <= 60000000; omega)
       obtain ⟨S4,a4,y4⟩:=cat_ex S3 hm 70000000 (by omega)
       obtain ⟨S5,a5,y5⟩:=cat_ex S4 ⟨#[44]⟩ 80000000 (by show S4.size + 1 <= 80000000; omega)
       obtain ⟨S6,a6,y6⟩:=cat_ex S5 hv 90000000 (by omega)
       obtain ⟨S7,a7,y7⟩:=cat_ex S6 ⟨#[44]⟩ 100000000 (by show S6.size + 1 <= 100000000; omega)
       obtain ⟨S8,a8,y8⟩:=cat_ex S7 he 110000000 (by omega)
       have HF:Hid (X = S8):=lH (by rw [HX9.out,if_neg (by decide),<- HSF.out,a1,a2,a3,a4,a5,a6,a7,a8])
       have z1:¬ 9223372036854775807 < S.size + 2:=by omega
       have z2:¬ 9223372036854775807 < S1.size + hu.size:=by omega
       have z3:¬ 9223372036854775807 < S2.size + 1:=by omega
       have z4:¬ 9223372036854775807 < S3.size + hm.size:=by omega
       have z5:¬ 9223372036854775807 < S4.size + 1:=by omega
       have z6:¬ 9223372036854775807 < S5.size + hv.size:=by omega
       have z7:¬ 9223372036854775807 < S6.size + 1:=by omega
       have z8:¬ 9223372036854775807 < S7.size + he.size:=by omega
       obtain ⟨_,-,-,-,m3,m4,m5,m6⟩:=hb7 hp
       have r1:(w2.alloc (.cells #[.string ⟨#[]⟩,.string ⟨#[]⟩,.string ⟨#[]⟩,.string ⟨#[]⟩] 24)).heap[w2.heap.size]? = some (.cells #[.string ⟨#[]⟩,.string ⟨#[]⟩,.string ⟨#[]⟩,.string ⟨#[]⟩] 24 (0,0)):=heap_alloc_new w2 _
       have hq:=below_setRow ((Since.refl w2).alloc (.cells #[.string ⟨#[]⟩,.string ⟨#[]⟩,.string ⟨#[]⟩,.string ⟨#[]⟩] 24)) (Nat.le_refl _) (#[.string u,.string m,.string v,.string e]:Array Value)
       have hi:HR w2 w2.heap.size #[.string u,.string m,.string v,.string e] 24 ((w2.alloc (.cells #[.string ⟨#[]⟩,.string ⟨#[]⟩,.string ⟨#[]⟩,.string ⟨#[]⟩] 24)).setRow w2.heap.size #[.string u,.string m,.string v,.string e]):=⟨setRow_heap _ _ _ _ _ _ r1⟩
       replace hp:=lH (hp.out.step hq)
       replace HX:=lH (HX.out.since hq)
       replace HS:=lH (HS.out.step hq)
       have hHeld:=And.intro (hr_cell hi 0 _ rfl) (And.intro (hr_cell hi 1 _ rfl) (And.intro (hr_cell hi 2 _ rfl) (hr_cell hi 3 _ rfl)))
       clear hq hi hJ y1 y2 y3 y4 y5 y6 y7 y8 HSF
       go_upto_region 10 with (refine RwL.at_store (ty:=24) rfl ?_; refine wpList_store_row rfl 24 _ _ rfl w2.heap.size #[.string u,.string m,.string v,.string e] (by rfl) (by rfl) _ _ r1 (h4_info _ _ _ _) rfl (h4_one _ _ _ _) ?_; generalize (w2.alloc (.cells #[.string ⟨#[]⟩,.string ⟨#[]⟩,.string ⟨#[]⟩,.string ⟨#[]⟩] 24)).setRow w2.heap.size #[.string u,.string m,.string v,.string e] = w3 at hp HX HS hHeld ⊢; clear r1 m3 m4 m5 m6)
       obtain ⟨G,hG⟩:∃ G,w2.heap.size = G:=⟨_,rfl⟩
       rw [hG] at hHeld ⊢
       clear hG
       have hq:=Since.drew (Since.refl w3)
       replace hp:=lH (hp.out.step hq)
       replace HX:=lH (HX.out.since hq)
       replace HS:=lH (HS.out.step hq)
       replace hHeld:=And.intro ((Below.cell hq (p:=⟨G,0,none⟩) (lt_cell hHeld.1)).trans hHeld.1) (And.intro ((Below.cell hq (p:=⟨G,1,none⟩) (lt_cell hHeld.2.1)).trans hHeld.2.1) (And.intro ((Below.cell hq (p:=⟨G,2,none⟩) (lt_cell hHeld.2.2.1)).trans hHeld.2.2.1) ((Below.cell hq (p:=⟨G,3,none⟩) (lt_cell hHeld.2.2.2)).trans hHeld.2.2.2)))
       refine RegW.start (fun W' => W'.cell? ⟨G,0,none⟩ = some (.string u) /\ W'.cell? ⟨G,1,none⟩ = some (.string m) /\ W'.cell? ⟨G,2,none⟩ = some (.string v) /\ W'.cell? ⟨G,3,none⟩ = some (.string e)) 21 (by kernel_rfl) hHeld (fun _ => ?_)
       generalize w3.drew = wa at hp HX HS hHeld ⊢
       clear hq
       refine RegW.tk 0 rfl ?_
       try simp only [RegW.p]
       refine RegW.tk (v:=.string S1) 1 rfl ?_
       try simp only [RegW.p]
       refine RegW.tk 2 rfl ?_
       try simp only [RegW.p]
       refine RegW.tk 3 rfl ?_
       try simp only [RegW.p]
       refine RegW.tk 7 rfl ?_
       try simp only [RegW.p]
       refine RegW.tk 8 rfl ?_
       try simp only [RegW.p]
       refine RegW.tk 12 rfl ?_
       try simp only [RegW.p]
       refine RegW.tk 13 rfl ?_
       try simp only [RegW.p]
       refine RegW.tk 17 rfl ?_
       try simp only [RegW.p]
       refine RegW.tk 18 rfl ?_
       try simp only [RegW.p]
       refine RegW.only (i:=4) rfl (by kernel_rfl) (fun K9 hK => ?_)
       go_simp
       refine c5.calls0 ?_
       intro wb hq
       replace hp:=lH (hp.out.step hq)
       replace HX:=lH (HX.out.since hq)
       replace HS:=lH (HS.out.step hq)
       replace hHeld:=And.intro ((Below.cell hq (p:=⟨G,0,none⟩) (lt_cell hHeld.1)).trans hHeld.1) (And.intro ((Below.cell hq (p:=⟨G,1,none⟩) (lt_cell hHeld.2.1)).trans hHeld.2.1) (And.intro ((Below.cell hq (p:=⟨G,2,none⟩) (lt_cell hHeld.2.2.1)).trans hHeld.2.2.1) ((Below.cell hq (p:=⟨G,3,none⟩) (lt_cell hHeld.2.2.2)).trans hHeld.2.2.2)))
       clear hq
       refine hK.out _ _ hHeld (fun _ => ?_)
       clear hK K9
       try simp only [RegW.p]
       refine RegW.tk (v:=.string S2) 5 rfl ?_
       try simp only [RegW.p]
       refine RegW.tk (v:=.string S3) 6 rfl ?_
       try simp only [RegW.p]
       refine RegW.only (i:=9) rfl (by kernel_rfl) (fun K9 hK => ?_)
       go_simp
       refine c6.calls0 ?_
       intro wb hq
       replace hp:=lH (hp.out.step hq)
       replace HX:=lH (HX.out.since hq)
       replace HS:=lH (HS.out.step hq)
       replace hHeld:=And.intro ((Below.cell hq (p:=⟨G,0,none⟩) (lt_cell hHeld.1)).trans hHeld.1) (And.intro ((Below.cell hq (p:=⟨G,1,none⟩) (lt_cell hHeld.2.1)).trans hHeld.2.1) (And.intro ((Below.cell hq (p:=⟨G,2,none⟩) (lt_cell hHeld.2.2.1)).trans hHeld.2.2.1) ((Below.cell hq (p:=⟨G,3,none⟩) (lt_cell hHeld.2.2.2)).trans hHeld.2.2.2)))
       clear hq
       refine hK.out _ _ hHeld (fun _ => ?_)
       clear hK K9
       try simp only [RegW.p]
       refine RegW.tk (v:=.string S4) 10 rfl ?_
       try simp only [RegW.p]
       refine RegW.tk (v:=.string S5) 11 rfl ?_
       try simp only [RegW.p]
       refine RegW.only (i:=14) rfl (by kernel_rfl) (fun K9 hK => ?_)
       go_simp
       refine c7.calls0 ?_
       intro wb hq
       replace hp:=lH (hp.out.step hq)
       replace HX:=lH (HX.out.since hq)
       replace HS:=lH (HS.out.step hq)
       replace hHeld:=And.intro ((Below.cell hq (p:=⟨G,0,none⟩) (lt_cell hHeld.1)).trans hHeld.1) (And.intro ((Below.cell hq (p:=⟨G,1,none⟩) (lt_cell hHeld.2.1)).trans hHeld.2.1) (And.intro ((Below.cell hq (p:=⟨G,2,none⟩) (lt_cell hHeld.2.2.1)).trans hHeld.2.2.1) ((Below.cell hq (p:=⟨G,3,none⟩) (lt_cell hHeld.2.2.2)).trans hHeld.2.2.2)))
       clear hq
       refine hK.out _ _ hHeld (fun _ => ?_)
       clear hK K9
       try simp only [RegW.p]
       refine RegW.tk (v:=.string S6) 15 rfl ?_
       try simp only [RegW.p]
       refine RegW.tk (v:=.string S7) 16 rfl ?_
       try simp only [RegW.p]
       refine RegW.only (i:=19) rfl (by kernel_rfl) (fun K9 hK => ?_)
       go_simp
       refine c8.calls0 ?_
       intro wb hq
       replace hp:=lH (hp.out.step hq)
       replace HX:=lH (HX.out.since hq)
       replace HS:=lH (HS.out.step hq)
       replace hHeld:=And.intro ((Below.cell hq (p:=⟨G,0,none⟩) (lt_cell hHeld.1)).trans hHeld.1) (And.intro ((Below.cell hq (p:=⟨G,1,none⟩) (lt_cell hHeld.2.1)).trans hHeld.2.1) (And.intro ((Below.cell hq (p:=⟨G,2,none⟩) (lt_cell hHeld.2.2.1)).trans hHeld.2.2.1) ((Below.cell hq (p:=⟨G,3,none⟩) (lt_cell hHeld.2.2.2)).trans hHeld.2.2.2)))
       clear hq
       refine hK.out _ _ hHeld (fun _ => ?_)
       clear hK K9
       try simp only [RegW.p]
       refine RegW.tk (v:=.string S8) 20 rfl ?_
       try simp only [RegW.p]
       refine RegW.last rfl (by kernel_rfl) (by kernel_rfl) ?_
       clear hHeld a1 a2 a3 a4 a5 a6 a7 a8 z1 z2 z3 z4 z5 z6 z7 z8
       go_wp2_with fail
       go_ret
       rw [HF.out]
       exact ⟨rfl,HS.out⟩
theorem rtext_mk (K:Int) (k u m v e:ByteArray) (L:List A2) (hk:k.size <= 100000) (h:u.size <= 20000 /\ m.size <= 20000 /\ v.size <= 20000 /\ e.size <= 20000):RdR 14 L (fun x => #[rv K k u m v e x]) (.string (textV K k L u m v e)):=by
 have c1:=rcheck_rec K k u m v e L hk _ rfl
 by_cases hz:recE K k L = 0
 · rw [hz] at c1
   obtain ⟨-,-,hA⟩:=rec_kind hz
   obtain ⟨n1,n2⟩:=num_all hA
   have hex:∀ s:ByteArray,s.size <= 100000 -> Mak 41 #[.string s] (.string (bs (hx s))):=fun s hs W => RefDig.hex_any s W (by omega) _ rfl
   have hsz:∀ s:ByteArray,s.size <= 20000 -> (bs (hx s)).size <= 100000:=fun s hs => by rw [hex_size]; omega
   refine rtext_yes K k u m v e L c1 n1 n2 hk _ (rbare_mk K k u m v e L) _ _ _ _ _ _ (hsz u h.1) (hsz m h.2.1) (hsz v h.2.2.1) (hsz e h.2.2.2) (name_size K) (by rw [hex_size]; omega) (rname_ret K _ rfl).mak (hex k hk) (hex u (by omega)) (hex m (by omega)) (hex v (by omega)) (hex e (by omega)) ?_ _ ?_
   · apply ba_ext
     rw [app_list,app_list]
     unfold prefT
     rw [list_bs,list_bs,list_bs]
     show _ ++ [32] ++ _ = _
     simp
   · rw [pref_text u m v e hz]
     split
     · rfl
     · apply ba_ext
       simp only [app_list,list_bs]
       show _ = _ ++ [32,64] ++ _ ++ [44] ++ _ ++ [44] ++ _ ++ [44] ++ _
       unfold headW
       simp [Sp.joinC]
 · unfold textV
   rw [if_neg hz]
   exact rtext_no K k u m v e L _ (bne_iff_ne.2 hz) c1
end Rcd
namespace Rcd
open Att Kind Rec Atf Rw Flt Tlv
theorem namedF_is (w:List UInt8):∀ (L:List Kind.Row) (i:Int),namedF L i w = 0 ∨ ∃ (k:Nat) (r:Kind.Row),L[k]? = some r /\ r.1 = w /\ namedF L i w = i + k:=by
 intro L
 induction L with
 | nil => intro i; exact Or.inl rfl
 | cons q L ih =>
   intro i
   rw [namedF]
   by_cases h:q.1 = w
   · rw [if_pos h]
     exact Or.inr ⟨0,q,rfl,h,by simp⟩
   · rw [if_neg h]
     rcases ih (i + 1) with h1 | ⟨k,r,h1,h2,h3⟩
     · exact Or.inl h1
     · exact Or.inr ⟨k + 1,r,h1,h2,by rw [h3]; omega⟩
theorem named_is (w:List UInt8):namedV w = 0 ∨ ∃ k:Nat,k < 11 /\ (rowOf ((k:Int) + 1)).1 = w /\ namedV w = (k:Int) + 1:=by
 rcases namedF_is w Kind.rows 1 with h | ⟨k,r,h1,h2,h3⟩
 · exact Or.inl h
 · have hk:k < 11:=by rw [<- row_len]; exact (List.getElem?_eq_some_iff.1 h1).1
   rw [row_get k hk] at h1
   cases h1
   exact Or.inr ⟨k,hk,h2,by rw [show namedV w = namedF Kind.rows 1 w from rfl,h3]; omega⟩
def kK (w:List UInt8) (j:Nat):Int:=if namedV w < (j:Int) then namedV w else 0
theorem kK_1 (w:List UInt8):kK w 1 = 0:=by
 unfold kK
 rcases named_is w with h | ⟨k,-,-,h⟩
 · rw [h]; rfl
 · rw [if_neg (by omega)]
theorem kK_12 (w:List UInt8):kK w 12 = namedV w:=by
 unfold kK
 rcases named_is w with h | ⟨k,hk,-,h⟩
 · rw [h]; rfl
 · rw [if_pos (by omega)]
theorem kK_yes (w:List UInt8) (j:Nat) (h1:1 <= j) (h2:j <= 11) (h:(rowOf (j:Int)).1 = w):kK w (j + 1) = (j:Int):=by
 have h3:=named_row (j:Int) (by omega)
 rw [h] at h3
 unfold kK
 rw [h3,if_pos (by omega)]
theorem kK_no (w:List UInt8) (j:Nat) (h1:1 <= j) (h:(rowOf (j:Int)).1 ≠ w):kK w (j + 1) = kK w j:=by
 have h3:namedV w ≠ (j:Int):=fun h4 => by
   rcases named_is w with h5 | ⟨k,-,h5,h6⟩
   · omega
   · exact h (by rw [<- h4,h6]; exact h5)
 unfold kK
 by_cases h4:namedV w < (j:Int)
 · rw [if_pos h4,if_pos (by omega)]
 · rw [if_neg h4,if_neg (by omega)]
theorem rcand_1 (w0:List UInt8) (ws:List (List UInt8)):rcandW ((w0 :: ws).take 1) = (namedV w0,⟨#[]⟩,[],noH):=rfl
theorem rcand_2 (w0:List UInt8) (ws:List (List UInt8)) (x:List UInt8) (h:(w0 :: ws)[1]? = some x):rcandW ((w0 :: ws).take 2) = (namedV w0,Dig.unS x,[],noH):=by
 cases ws with
 | nil => cases h
 | cons y ws => cases h; rfl
theorem rcand_snoc (ws:List (List UInt8)) (j:Nat) (hj:2 <= j) (x:List UInt8) (h:ws[j]? = some x):rcandW (ws.take (j + 1)) = ((rcandW (ws.take j)).1,(rcandW (ws.take j)).2.1,(rst ((rcandW (ws.take j)).2.2.1,(rcandW (ws.take j)).2.2.2) x).1,(rst ((rcandW (ws.take j)).2.2.1,(rcandW (ws.take j)).2.2.2) x).2):=by
 match ws,j,hj,h with
 | [w0],j + 2,_,h => exact absurd h (by simp)
 | w0 :: w1 :: r,j + 2,_,h =>
   have h9:r[j]? = some x:=h
   show rcandW (w0 :: w1 :: r.take (j + 1)) = ((rcandW (w0 :: w1 :: r.take j)).1,(rcandW (w0 :: w1 :: r.take j)).2.1,(rst ((rcandW (w0 :: w1 :: r.take j)).2.2.1,(rcandW (w0 :: w1 :: r.take j)).2.2.2) x).1,(rst ((rcandW (w0 :: w1 :: r.take j)).2.2.1,(rcandW (w0 :: w1 :: r.take j)).2.2.2) x).2)
   rw [Att.take_snoc r j x h9,rcandW,rcandW,List.foldl_append]
   rfl
theorem runhex_m (s:ByteArray) (hm:s.size <= 140737488355328):∃ B,Mak 28 #[.string s] (.tuple #[.string (Dig.unS s.data.toList),.bool B]):=by
 have hl:s.data.toList.length = s.size:=rfl
 by_cases h:s.size % 2 = 0
 · have e:Dig.unB s.data.toList = Dig.okN s.data.toList (s.size / 2):=by
     unfold Dig.unB
     rw [hl,decide_eq_true h,Bool.true_and]
   exact ⟨Dig.unB s.data.toList,fun w => RefDig.unhex_even s (s.size / 2) w hm (by omega) _ _ e (by unfold Dig.unS; rw [e,hl])⟩
 · have e:Dig.unS s.data.toList = ⟨#[]⟩:=by
     unfold Dig.unS Dig.unB
     rw [hl,decide_eq_false h,Bool.false_and]
     rfl
   rw [e]
   exact ⟨false,fun w => RefDig.unhex_odd s w hm (by omega)⟩
theorem numS_ne (n:Int):Dig.numS n ≠ []:=by
 unfold Dig.numS
 split
 · exact List.cons_ne_nil _ _
 · intro h
   unfold Dig.digs at h
   split at h
   · cases h
   · exact absurd (congrArg List.length h) (by simp)
theorem runnum_m (s:ByteArray) (hm:s.size <= 140737488355328):∃ B,Mak 29 #[.string s] (.tuple #[.int .i64 (unNv s.data.toList),.bool B]):=by
 have hl:s.data.toList.length = s.size:=rfl
 by_cases h:s.size < 1 ∨ 20 < s.size
 · have e:unNv s.data.toList = 0:=by
     unfold unNv unN
     rw [if_neg]
     · rfl
     · rintro ⟨h1,h2⟩
       rcases h with h | h
       · have h3:s.data.toList = []:=List.length_eq_zero_iff.1 (by omega)
         rw [h3] at h2
         exact numS_ne _ h2
       · omega
   rw [e]
   exact ⟨false,(RefDig.unnum_out s h hm).mak⟩
 · have e:unNv s.data.toList = if decide (bs (Dig.numS (Dig.unV s.data.toList)) = s) = true then Dig.unV s.data.toList else 0:=by
     unfold unNv unN
     by_cases h2:Dig.numS (Dig.unV s.data.toList) = s.data.toList
     · have h3:bs (Dig.numS (Dig.unV s.data.toList)) = s:=by rw [h2]; exact ba_ext rfl
       rw [if_pos ⟨by omega,h2⟩,decide_eq_true h3,if_pos rfl]
       rfl
     · have h3:¬ bs (Dig.numS (Dig.unV s.data.toList)) = s:=fun h4 => h2 (by
         have h5:=congrArg (fun z:ByteArray => z.data.toList) h4
         exact h5)
       rw [if_neg (fun h4 => h2 h4.2),decide_eq_false h3,if_neg (by decide)]
       rfl
   by_cases h45:(s[0]'(by omega)).toNat = 45
   · exact ⟨_,RefDig.unnum_neg s (by omega) (by omega) h45 _ _ _ rfl rfl e⟩
   · exact ⟨_,RefDig.unnum_pos s (by omega) (by omega) h45 _ _ _ rfl rfl e⟩
theorem four_of (P:List ByteArray) (h:P ≠ []):∃ a b c d r,P ++ [⟨#[]⟩,⟨#[]⟩,⟨#[]⟩] = a :: b :: c :: d :: r:=by
 match P,h with
 | [a],_ => exact ⟨_,_,_,_,_,rfl⟩
 | [a,b],_ => exact ⟨_,_,_,_,_,rfl⟩
 | [a,b,c],_ => exact ⟨_,_,_,_,_,rfl⟩
 | a :: b :: c :: d :: r,_ => exact ⟨_,_,_,_,_,rfl⟩
theorem two_of (P:List ByteArray) (h:P ≠ []):∃ a b r,P ++ [⟨#[]⟩] = a :: b :: r:=by
 match P,h with
 | [a],_ => exact ⟨_,_,_,rfl⟩
 | a :: b :: r,_ => exact ⟨_,_,_,rfl⟩
def PS (w1 W:World) (g:Nat) (K:Int) (k:ByteArray) (L:List A2) (u m v e:ByteArray) (V:Value) (X:List Rw.Row):Prop :=
 Rw.Rows W w1.heap.size (RwL.lone 26 g [.int .i64 K,.string k,V,.string u,.string m,.string v,.string e] :: ⟨38,2,V,L.length,L.flatMap ac⟩ :: X) /\ Since w1 W
section
variable {w1 W W':World} {g:Nat} {K:Int} {k:ByteArray} {L:List A2} {u m v e:ByteArray} {V:Value} {X:List Rw.Row}
theorem PS.since (h:PS w1 W g K k L u m v e V X) (hs:Since W W'):PS w1 W' g K k L u m v e V X:=⟨h.1.since hs,h.2.step hs⟩
theorem PS.cells (h:PS w1 W g K k L u m v e V X):W.cell? ⟨g,0,none⟩ = some (.int .i64 K) /\ W.cell? ⟨g,1,none⟩ = some (.string k) /\ W.cell? ⟨g,2,none⟩ = some V /\ W.cell? ⟨g,3,none⟩ = some (.string u) /\ W.cell? ⟨g,4,none⟩ = some (.string m) /\ W.cell? ⟨g,5,none⟩ = some (.string v) /\ W.cell? ⟨g,6,none⟩ = some (.string e):=by
 have h1:=fun i x hx => (RwL.lone_cell (h.1.own (RwL.lone 26 g [.int .i64 K,.string k,V,.string u,.string m,.string v,.string e]) (by simp)) i x hx).1
 exact ⟨h1 0 _ rfl,h1 1 _ rfl,h1 2 _ rfl,h1 3 _ rfl,h1 4 _ rfl,h1 5 _ rfl,h1 6 _ rfl⟩
theorem PS.atts (h:PS w1 W g K k L u m v e V X):AttsS W V L:=AttsS.own (h.1.own ⟨38,2,V,L.length,L.flatMap ac⟩ (by simp))
theorem PS.val (h:PS w1 W g K k L u m v e V X):∃ A c,V = .slice A L.length c /\ L.length <= c:=own_slice (h.1.own ⟨38,2,V,L.length,L.flatMap ac⟩ (by simp))
theorem PS.pop {x:Rw.Row} (h:PS w1 W g K k L u m v e V [x]):PS w1 W g K k L u m v e V []:=⟨Tree.rows_sub h.1 (List.Sublist.cons_cons _ (List.Sublist.cons_cons _ (List.nil_sublist _))),h.2⟩
theorem PS.new (w1:World):PS w1 (w1.alloc (.cells Z7 26)) w1.heap.size 0 ⟨#[]⟩ [] ⟨#[]⟩ ⟨#[]⟩ ⟨#[]⟩ ⟨#[]⟩ (.slice none 0 0) [] :=
 ⟨RwL.rows_push (rs:=[⟨38,2,.slice none 0 0,0,[]⟩]) ⟨fun r hr => by rw [List.mem_singleton.1 hr]; exact World.ownsRow_nil _ _ _ _,by simp⟩ (Nat.le_refl _) [.int .i64 0,.string ⟨#[]⟩,.slice none 0 0,.string ⟨#[]⟩,.string ⟨#[]⟩,.string ⟨#[]⟩,.string ⟨#[]⟩] 26,(Since.refl w1).alloc _⟩
theorem PS.push {e9:TypeId} {V9:Value} {n9:Nat} {xs:List Value} (h:PS w1 W g K k L u m v e V []) (hs:Since W W') (hr:W'.ownsRow W.heap.size e9 1 V9 n9 xs):PS w1 W' g K k L u m v e V [⟨e9,1,V9,n9,xs⟩] :=
 ⟨Tree.rows_merge h.1 hs (rs':=[⟨e9,1,V9,n9,xs⟩]) ⟨fun r hr2 => by rw [List.mem_singleton.1 hr2]; exact hr,by simp⟩ (Below.size h.2),h.2.step hs⟩
theorem own_cell {W:World} {base:Nat} {ty:TypeId} {n g c:Nat} {xs:List Value} (h:W.ownsRow base ty 1 (.slice (some ⟨g,0,none⟩) n c) n xs) (i:Nat) (x:Value) (hx:xs[i]? = some x):W.cell? ⟨g,i,none⟩ = some x:=by
 rcases h.2 with ⟨h0,_⟩ | ⟨g',cap,cur,hv,hb,hg,hc,hm,hs,ht⟩
 · cases h0
 · cases hv
   unfold World.cell?
   rw [hg]
   rw [<- ht,List.getElem?_take] at hx
   split at hx
   · simpa using hx
   · cases hx
theorem own_addr {W:World} {base:Nat} {ty:TypeId} {n:Nat} {V:Value} {xs:List Value} (h:W.ownsRow base ty 1 V n xs) (hn:0 < n):∃ g c,V = .slice (some ⟨g,0,none⟩) n c:=by
 rcases h.2 with ⟨h0,h1⟩ | ⟨g',cap,cur,hv,_⟩
 · omega
 · exact ⟨_,_,hv⟩
theorem PS.word {e9:TypeId} {g9 n9 c9:Nat} {xs:List Value} (h:PS w1 W g K k L u m v e V [⟨e9,1,.slice (some ⟨g9,0,none⟩) n9 c9,n9,xs⟩]) (i:Nat) (x:Value) (hx:xs[i]? = some x):W.cell? ⟨g9,i,none⟩ = some x :=
 own_cell (h.1.own ⟨e9,1,.slice (some ⟨g9,0,none⟩) n9 c9,n9,xs⟩ (by simp)) i x hx
theorem PS.own (h:PS w1 W g K k L u m v e V X):W.ownsRow w1.heap.size 38 2 V L.length (L.flatMap ac):=h.1.own ⟨38,2,V,L.length,L.flatMap ac⟩ (by simp)
end
theorem unS_half (w:List UInt8):2 * (Dig.unS w).size <= w.length:=by
 unfold Dig.unS
 by_cases hb:Dig.unB w = true
 · rw [if_pos hb,bs_nums,size_bs,List.length_map,List.length_map,List.length_range]
   omega
 · rw [if_neg hb]
   exact Nat.zero_le _
theorem three_one:∀ u ∈ (#[.string ⟨#[]⟩,.string ⟨#[]⟩,.string ⟨#[]⟩]:Array Value).toList,u.oneCell' = true:=by
 intro u hu
 simp only [List.mem_cons,List.not_mem_nil,or_false] at hu
 rcases hu with rfl | rfl | rfl <;> rfl
theorem tail_list (x:ByteArray):(x.extract 1 x.size).data.toList = x.data.toList.tail:=by
 rw [ByteArray.data_extract,Array.toList_extract]
 unfold List.extract
 rw [List.take_of_length_le (by rw [List.length_drop]; exact Nat.le_refl _),List.drop_one]
theorem head_at (x:ByteArray) (h:0 < x.size):x.data.toList.head? = some (x[0]'h):=by
 rw [List.head?_eq_getElem?,List.getElem?_eq_getElem (by simpa using h)]
 rfl
theorem rst_head (p:List A2 × Hd) (x:List UInt8) (h:x.head? = some 64):rst p x = (p.1,rheadF x):=if_pos h
theorem rst_att (p:List A2 × Hd) (x:List UInt8) (h:¬ x.head? = some 64):rst p x = (p.1 ++ [rattF x],p.2):=if_neg h
theorem rhead_is (x:List UInt8) (P:List ByteArray) (a b c d:ByteArray) (r:List ByteArray) (hP:P.map (·.data.toList) = Sp.pcs 44 x.tail) (h:P ++ [⟨#[]⟩,⟨#[]⟩,⟨#[]⟩] = a :: b :: c :: d :: r):rheadF x = (Dig.unS a.data.toList,Dig.unS b.data.toList,Dig.unS c.data.toList,Dig.unS d.data.toList):=by
 have h1:Sp.pcs 44 x.tail ++ [[],[],[]] = a.data.toList :: b.data.toList :: c.data.toList :: d.data.toList :: r.map (·.data.toList):=by
   rw [<- hP]
   have h2:=congrArg (List.map (fun z:ByteArray => z.data.toList)) h
   rw [List.map_append] at h2
   exact h2
 unfold rheadF
 rw [h1]
 rfl
theorem ratt_is (x:List UInt8) (P:List ByteArray) (a b:ByteArray) (r:List ByteArray) (hP:P.map (·.data.toList) = Sp.pcs 61 x) (h:P ++ [⟨#[]⟩] = a :: b :: r):rattF x = (unNv a.data.toList,Dig.unS b.data.toList):=by
 have h1:Sp.pcs 61 x ++ [[]] = a.data.toList :: b.data.toList :: r.map (·.data.toList):=by
   rw [<- hP]
   have h2:=congrArg (List.map (fun z:ByteArray => z.data.toList)) h
   rw [List.map_append] at h2
   exact h2
 unfold rattF
 rw [h1]
 rfl
end Rcd
end Go.Proofs.YtfnmakelbijmkaaDoor
