import Derived.Test.YtfnmakelbijmkaaDoorRb51
set_option maxRecDepth 100000
namespace Go.Proofs.YtfnmakelbijmkaaDoor
open Go.RowKit
namespace Rcd
open Att Kind Rec Atf Rw Flt Tlv
theorem text_list {K:Int} {k:ByteArray} {L:List A2} (u m v e:ByteArray) (h:recE K k L = 0):(textV K k L u m v e).data.toList = Sp.joinC 32 (wordsW K k L u m v e):=by
 unfold textV
 rw [if_pos h,list_bs]
theorem par_text {K:Int} {k:ByteArray} {L:List A2} (u m v e:ByteArray) (h:recE K k L = 0):parV (textV K k L u m v e) = ((K,k,L,(u,m,v,e)),0):=by
 unfold parV
 rw [text_list u m v e h,candP_text u m v e h]
 dsimp only
 rw [if_pos]
 rfl
theorem par_ok {t:ByteArray} (h:(parV t).2 = 0):textC (parV t).1 = t /\ candP t.data.toList = some (parV t).1:=by
 unfold parV at h ⊢
 cases hc:candP t.data.toList with
 | none => rw [hc] at h; exact absurd (show (5:Int) = 0 from h) (by decide)
 | some c =>
   rw [hc] at h
   dsimp only at h ⊢
   by_cases ht:textC c = t
   · rw [if_pos ht]
     exact ⟨ht,rfl⟩
   · rw [if_neg ht] at h
     exact absurd (show (5:Int) = 0 from h) (by decide)
theorem par_no (t:ByteArray):(parV t).2 = 0 ∨ parV t = (noCd,5):=by
 unfold parV
 cases candP t.data.toList with
 | none => exact Or.inr rfl
 | some c =>
   dsimp only
   by_cases ht:textC c = t
   · rw [if_pos ht]
     exact Or.inl rfl
   · rw [if_neg ht]
     exact Or.inr rfl
theorem cand_size {t:List UInt8} {c:Cd} (h:candP t = some c):2 * c.2.1.size <= t.length /\ 2 * c.2.2.2.1.size <= t.length /\ 2 * c.2.2.2.2.1.size <= t.length /\ 2 * c.2.2.2.2.2.1.size <= t.length /\ 2 * c.2.2.2.2.2.2.size <= t.length:=by
 have hle:∀ x ∈ Sp.splN 32 36 t,x.length <= t.length:=fun x hx => splN_le 32 35 t x hx
 unfold candP at h
 match hs:Sp.splN 32 36 t with
 | [] => rw [hs] at h; cases h
 | [_] => rw [hs] at h; cases h
 | w0 :: w1 :: ws =>
   rw [hs] at h hle
   cases hX:unH w1 with
   | none => rw [cand_1 _ _ _ hX] at h; cases h
   | some X =>
     have hx:=unH_size hX
     have h1:=hle w1 (by simp)
     by_cases hh:((w0 :: w1 :: ws).getLastD []).head? = some 64
     · rw [cand_3 _ _ _ X _ hX rfl hh] at h
       cases hp:headP ((w0 :: w1 :: ws).getLastD []).tail with
       | none => rw [hp] at h; cases h
       | some H =>
         rw [hp] at h
         dsimp only at h
         have hz:=headP_size hp
         have hl:((w0 :: w1 :: ws).getLastD []).length <= t.length:=hle _ (by
           rw [List.getLastD_eq_getLast?,List.getLast?_eq_some_getLast (List.cons_ne_nil w0 (w1 :: ws))]
           exact List.getLast_mem (List.cons_ne_nil w0 (w1 :: ws)))
         rw [List.length_tail] at hz
         cases ha:attsP ws.dropLast with
         | none => rw [ha] at h; cases h
         | some L =>
           rw [ha] at h
           cases h
           dsimp only
           omega
     · rw [cand_2 _ _ _ X _ hX rfl hh] at h
       cases ha:attsP ws with
       | none => rw [ha] at h; cases h
       | some L =>
         rw [ha] at h
         cases h
         show 2 * X.size <= t.length /\ 2 * 0 <= t.length /\ 2 * 0 <= t.length /\ 2 * 0 <= t.length /\ 2 * 0 <= t.length
         omega
theorem text_ne {K:Int} {k:ByteArray} {L:List A2} (u m v e:ByteArray) (h:recE K k L = 0):textV K k L u m v e ≠ ⟨#[]⟩:=by
 intro h2
 have h3:=text_list u m v e h
 rw [h2] at h3
 have h4:(Sp.joinC 32 (wordsW K k L u m v e)).length = 0:=by rw [<- h3]; rfl
 unfold wordsW at h4
 rw [Sp.joinC_cons _ _ _ (List.cons_ne_nil _ _),List.length_append,List.length_cons] at h4
 omega
theorem text_size {K:Int} {k:ByteArray} {L:List A2} (u m v e:ByteArray) (hk:k.size <= 100) (hL:∀ a ∈ L,a.2.size <= 300) (hh:u.size <= 20 /\ m.size <= 20 /\ v.size <= 20 /\ e.size <= 20):(textV K k L u m v e).size <= 40000:=by
 by_cases h:recE K k L = 0
 · obtain ⟨-,-,hA⟩:=rec_kind h
   have hl:L.length <= 32:=((Atm.attOk_iff L).1 hA).1
   have h9:(Sp.joinC 32 (wordsW K k L u m v e)).length <= (wordsW K k L u m v e).length * (1000 + 1):=join_size 32 _ 1000 fun w hw => by
     unfold wordsW at hw
     rw [List.mem_cons,List.mem_cons,List.mem_append] at hw
     rcases hw with rfl | rfl | hw | hw
     · have:=name_size K
       rw [size_bs] at this
       exact this
     · have:=hex_size k
       rw [size_bs] at this
       omega
     · obtain ⟨a,ha,rfl⟩:=List.mem_map.1 hw
       have h1:=hL a ha
       have h2:=(num_all hA).1 a ha
       have h3:=hex_size a.2
       rw [size_bs] at h3
       have h4:(Dig.numS a.1).length <= 21:=by
         have h3:=digs_len 20 a.1.natAbs
         unfold Dig.numS
         split
         · rw [List.length_cons]; omega
         · omega
       unfold attW
       rw [List.length_append,List.length_cons]
       omega
     · by_cases hb:bareB u m v e = true
       · rw [if_pos hb] at hw
         cases hw
       · rw [if_neg hb,List.mem_singleton] at hw
         subst hw
         have a1:=hex_size u
         have a2:=hex_size m
         have a3:=hex_size v
         have a4:=hex_size e
         rw [size_bs] at a1 a2 a3 a4
         unfold headW
         simp only [Sp.joinC,List.length_cons,List.length_append]
         omega
   have hw:(wordsW K k L u m v e).length <= 36:=by
     unfold wordsW
     rw [List.length_cons,List.length_cons,List.length_append,List.length_map]
     split
     · show L.length + 0 + 1 + 1 <= 36
       omega
     · show L.length + 1 + 1 + 1 <= 36
       omega
   have h8:=congrArg List.length (text_list u m v e h)
   have h7:(textV K k L u m v e).data.toList.length = (textV K k L u m v e).size:=rfl
   omega
 · unfold textV
   rw [if_neg h]
   exact Nat.zero_le _
end Rcd
namespace Rcd
open Att Kind Rec Atf Rw Flt Tlv
abbrev aT:ByteArray:=⟨#[65,69,83,45,49,50,56,32,51,48,51,49,51,50,51,51,51,52,51,53,51,54,51,55,51,56,51,57,54,49,54,50,54,51,54,52,54,53,54,54,32,53,61,54,49]⟩
abbrev aK:ByteArray:=⟨#[48,49,50,51,52,53,54,55,56,57,97,98,99,100,101,102]⟩
abbrev aS:ByteArray:=⟨#[65,69,83,45,49,50,56]⟩
abbrev aA:List A2:=[(5,⟨#[97]⟩)]
theorem rec_a:recE 1 aK aA = 0:=by decide +kernel
theorem text_a:textV 1 aK aA ⟨#[]⟩ ⟨#[]⟩ ⟨#[]⟩ ⟨#[]⟩ = aT:=by decide +kernel
theorem par_a:parV aT = ((1,aK,aA,noH),0):=by
 have h:=par_text ⟨#[]⟩ ⟨#[]⟩ ⟨#[]⟩ ⟨#[]⟩ rec_a
 rw [text_a] at h
 exact h
theorem par_s:parV aS = (noCd,5):=by
 unfold parV
 rw [show candP aS.data.toList = none by decide +kernel]
set_option maxHeartbeats 4000000 in
theorem awake_core (aT' aK' aS':ByteArray) (hT':aT' = aT) (hK':aK' = aK) (hS':aS' = aS) (w:World) (hT:Tab2 w) (c1:ParR 7 aT' (1,aK',aA,noH) 0) (c2:ParR 7 aS' noCd 5):Calls Tryd.prog 6 #[] w fun e w' => e = .returned (.bool true) /\ Since w w':=by
 subst hT' hK' hS'
 have HT:=lH hT
 clear hT
 have c3:=check_rec 1 aK ⟨#[]⟩ ⟨#[]⟩ ⟨#[]⟩ ⟨#[]⟩ aA (by decide) 0 rec_a.symm
 have c4:=text_mk 1 aK ⟨#[]⟩ ⟨#[]⟩ ⟨#[]⟩ ⟨#[]⟩ aA (by decide) ⟨by decide,by decide,by decide,by decide⟩
 rw [text_a] at c4
 have c5:=alike_t 1 aK ⟨#[]⟩ ⟨#[]⟩ ⟨#[]⟩ ⟨#[]⟩ aA
 have c6:=bare_mk 1 aK ⟨#[]⟩ ⟨#[]⟩ ⟨#[]⟩ ⟨#[]⟩ aA
 rw [show bareB ⟨#[]⟩ ⟨#[]⟩ ⟨#[]⟩ ⟨#[]⟩ = true by decide +kernel] at c6
 have c7:=same_t 1 aK ⟨#[]⟩ ⟨#[]⟩ ⟨#[]⟩ ⟨#[]⟩ aA
 have hz:(w.alloc (.cells #[.int .i64 5,.string ⟨#[97]⟩] 38)).heap.size = w.heap.size + 1:=by simp
 obtain ⟨C,hC⟩:∃ C:Array Value,C = #[.int .i64 1,.string aK,.slice (some ⟨w.heap.size,0,none⟩) 1 1,.string ⟨#[]⟩,.string ⟨#[]⟩,.string ⟨#[]⟩,.string ⟨#[]⟩]:=⟨_,rfl⟩
 have hr:Hid (HR w (w.heap.size + 1) C 26 ((w.alloc (.cells #[.int .i64 5,.string ⟨#[97]⟩] 38)).alloc (.cells C 26))):=lH ⟨by rw [<- hz]; exact heap_alloc_new _ _⟩
 have HS:=lH (((Since.refl w).alloc (.cells #[.int .i64 5,.string ⟨#[97]⟩] 38)).alloc (.cells C 26))
 have HA:=lH ((show AttsS (w.alloc (.cells #[.int .i64 5,.string ⟨#[97]⟩] 38)) (.slice (some ⟨w.heap.size,0,none⟩) 1 1) aA from SlR.lit w 2 1 (ac (5,⟨#[97]⟩)) rfl (by decide) #[.int .i64 5,.string ⟨#[97]⟩] rfl 38).since ((Since.refl _).alloc (.cells C 26)))
 rw [hC] at hr HS HA
 clear hC hz
 go_enter Tryd.func6,Tryd.ntmps6
 go_wp2_with fail
 refine (c1 _ (Kp.keep HT.out HS.out)).mono ?_
 rintro _ w1 ⟨y,rfl,hy,hq⟩
 obtain ⟨Ay,cy,rfl,-,-⟩:=hy.slice
 have HY:=lH hy
 replace hr:=lH (hr.out.step hq)
 replace HS:=lH (HS.out.step hq)
 replace HA:=lH (HA.out.since hq)
 clear hq hy
 dsimp only [noH]
 obtain ⟨Cp,hCp⟩:∃ C:Array Value,C = #[.int .i64 1,.string aK,.slice Ay 1 cy,.string ⟨#[]⟩,.string ⟨#[]⟩,.string ⟨#[]⟩,.string ⟨#[]⟩]:=⟨_,rfl⟩
 have hp:Hid (HR w1 w1.heap.size Cp 26 (w1.alloc (.cells Cp 26))):=lH ⟨heap_alloc_new w1 _⟩
 replace hr:=lH (hr_old hr.out (.cells Cp 26))
 replace HS:=lH (HS.out.alloc (.cells Cp 26))
 replace HA:=lH (HA.out.since ((Since.refl _).alloc (.cells Cp 26)))
 replace HY:=lH (HY.out.since ((Since.refl _).alloc (.cells Cp 26)))
 rw [hCp] at hp hr HS HA HY
 clear hCp
 go_wp2_with fail
 refine (c2 _ (Kp.keep HT.out HS.out)).mono ?_
 rintro _ w2 ⟨z,rfl,hz,hq⟩
 obtain ⟨Az,cz,rfl,-,-⟩:=hz.slice
 replace hr:=lH (hr.out.step hq)
 replace HS:=lH (HS.out.step hq)
 replace HA:=lH (HA.out.since hq)
 replace HY:=lH (HY.out.since hq)
 replace hp:=lH (hp.out.step hq)
 clear hq hz
 obtain ⟨g1,hg1⟩:∃ g,g = w1.heap.size:=⟨_,rfl⟩
 rw [<- hg1] at hp ⊢
 clear hg1
 dsimp only [noCd,noH]
 obtain ⟨Cq,hCq⟩:∃ C:Array Value,C = #[.int .i64 0,.string ⟨#[]⟩,.slice Az ([]:List A2).length cz,.string ⟨#[]⟩,.string ⟨#[]⟩,.string ⟨#[]⟩,.string ⟨#[]⟩]:=⟨_,rfl⟩
 replace hr:=lH (hr_old hr.out (.cells Cq 26))
 replace hp:=lH (hr_old hp.out (.cells Cq 26))
 replace HS:=lH (HS.out.alloc (.cells Cq 26))
 replace HA:=lH (HA.out.since ((Since.refl _).alloc (.cells Cq 26)))
 replace HY:=lH (HY.out.since ((Since.refl _).alloc (.cells Cq 26)))
 rw [hCq] at hp hr HS HA HY
 clear hCq
 dsimp only [noCd,List.length_nil] at hp hr HS HA HY ⊢
 have l0:=hr_cell hr.out 0 _ rfl
 have l1:=hr_cell hr.out 1 _ rfl
 have l2:=hr_cell hr.out 2 _ rfl
 have l3:=hr_cell hr.out 3 _ rfl
 have l4:=hr_cell hr.out 4 _ rfl
 have l5:=hr_cell hr.out 5 _ rfl
 have l6:=hr_cell hr.out 6 _ rfl
 have p0:=hr_cell hp.out 0 _ rfl
 have p1:=hr_cell hp.out 1 _ rfl
 have p2:=hr_cell hp.out 2 _ rfl
 have p3:=hr_cell hp.out 3 _ rfl
 have p4:=hr_cell hp.out 4 _ rfl
 have p5:=hr_cell hp.out 5 _ rfl
 have p6:=hr_cell hp.out 6 _ rfl
 replace HY:=lH (show AttsS _ (.slice Ay 1 cy) aA from HY.out)
 go_wp2_with fail
 refine c3.calls0 (Kp.keep HT.out HS.out) HA.out ?_
 intro w3 hq
 replace hr:=lH (hr.out.step hq)
 replace HS:=lH (HS.out.step hq)
 replace HA:=lH (HA.out.since hq)
 replace HY:=lH (HY.out.since hq)
 replace hp:=lH (hp.out.step hq)
 clear hq l0 l1 l2 l3 l4 l5 l6 p0 p1 p2 p3 p4 p5 p6
 have l0:=hr_cell hr.out 0 _ rfl
 have l1:=hr_cell hr.out 1 _ rfl
 have l2:=hr_cell hr.out 2 _ rfl
 have l3:=hr_cell hr.out 3 _ rfl
 have l4:=hr_cell hr.out 4 _ rfl
 have l5:=hr_cell hr.out 5 _ rfl
 have l6:=hr_cell hr.out 6 _ rfl
 have p0:=hr_cell hp.out 0 _ rfl
 have p1:=hr_cell hp.out 1 _ rfl
 have p2:=hr_cell hp.out 2 _ rfl
 have p3:=hr_cell hp.out 3 _ rfl
 have p4:=hr_cell hp.out 4 _ rfl
 have p5:=hr_cell hp.out 5 _ rfl
 have p6:=hr_cell hp.out 6 _ rfl
 go_wp2_with fail
 refine c4.calls0 (Kp.keep HT.out HS.out) HA.out ?_
 intro w4 hq
 replace hr:=lH (hr.out.step hq)
 replace HS:=lH (HS.out.step hq)
 replace HA:=lH (HA.out.since hq)
 replace HY:=lH (HY.out.since hq)
 replace hp:=lH (hp.out.step hq)
 clear hq l0 l1 l2 l3 l4 l5 l6 p0 p1 p2 p3 p4 p5 p6
 have l0:=hr_cell hr.out 0 _ rfl
 have l1:=hr_cell hr.out 1 _ rfl
 have l2:=hr_cell hr.out 2 _ rfl
 have l3:=hr_cell hr.out 3 _ rfl
 have l4:=hr_cell hr.out 4 _ rfl
 have l5:=hr_cell hr.out 5 _ rfl
 have l6:=hr_cell hr.out 6 _ rfl
 have p0:=hr_cell hp.out 0 _ rfl
 have p1:=hr_cell hp.out 1 _ rfl
 have p2:=hr_cell hp.out 2 _ rfl
 have p3:=hr_cell hp.out 3 _ rfl
 have p4:=hr_cell hp.out 4 _ rfl
 have p5:=hr_cell hp.out 5 _ rfl
 have p6:=hr_cell hp.out 6 _ rfl
 go_wp2_with fail
 refine c5.calls0 HY.out HA.out ?_
 intro w5 hq
 replace hr:=lH (hr.out.step hq)
 replace HS:=lH (HS.out.step hq)
 replace HA:=lH (HA.out.since hq)
 replace HY:=lH (HY.out.since hq)
 replace hp:=lH (hp.out.step hq)
 clear hq l0 l1 l2 l3 l4 l5 l6 p0 p1 p2 p3 p4 p5 p6
 have l0:=hr_cell hr.out 0 _ rfl
 have l1:=hr_cell hr.out 1 _ rfl
 have l2:=hr_cell hr.out 2 _ rfl
 have l3:=hr_cell hr.out 3 _ rfl
 have l4:=hr_cell hr.out 4 _ rfl
 have l5:=hr_cell hr.out 5 _ rfl
 have l6:=hr_cell hr.out 6 _ rfl
 have p0:=hr_cell hp.out 0 _ rfl
 have p1:=hr_cell hp.out 1 _ rfl
 have p2:=hr_cell hp.out 2 _ rfl
 have p3:=hr_cell hp.out 3 _ rfl
 have p4:=hr_cell hp.out 4 _ rfl
 have p5:=hr_cell hp.out 5 _ rfl
 have p6:=hr_cell hp.out 6 _ rfl
 go_wp2_with fail
 refine c6.calls0 (Kp.keep HT.out HS.out) HA.out ?_
 intro w6 hq
 replace hr:=lH (hr.out.step hq)
 replace HS:=lH (HS.out.step hq)
 replace HA:=lH (HA.out.since hq)
 replace HY:=lH (HY.out.since hq)
 replace hp:=lH (hp.out.step hq)
 clear hq l0 l1 l2 l3 l4 l5 l6 p0 p1 p2 p3 p4 p5 p6
 have l0:=hr_cell hr.out 0 _ rfl
 have l1:=hr_cell hr.out 1 _ rfl
 have l2:=hr_cell hr.out 2 _ rfl
 have l3:=hr_cell hr.out 3 _ rfl
 have l4:=hr_cell hr.out 4 _ rfl
 have l5:=hr_cell hr.out 5 _ rfl
 have l6:=hr_cell hr.out 6 _ rfl
 have p0:=hr_cell hp.out 0 _ rfl
 have p1:=hr_cell hp.out 1 _ rfl
 have p2:=hr_cell hp.out 2 _ rfl
 have p3:=hr_cell hp.out 3 _ rfl
 have p4:=hr_cell hp.out 4 _ rfl
 have p5:=hr_cell hp.out 5 _ rfl
 have p6:=hr_cell hp.out 6 _ rfl
 go_wp2_with fail
 refine c7.calls0 HA.out HY.out ?_
 intro w7 hq
 replace hr:=lH (hr.out.step hq)
 replace HS:=lH (HS.out.step hq)
 replace HA:=lH (HA.out.since hq)
 replace HY:=lH (HY.out.since hq)
 replace hp:=lH (hp.out.step hq)
 clear hq l0 l1 l2 l3 l4 l5 l6 p0 p1 p2 p3 p4 p5 p6
 have l0:=hr_cell hr.out 0 _ rfl
 have l1:=hr_cell hr.out 1 _ rfl
 have l2:=hr_cell hr.out 2 _ rfl
 have l3:=hr_cell hr.out 3 _ rfl
 have l4:=hr_cell hr.out 4 _ rfl
 have l5:=hr_cell hr.out 5 _ rfl
 have l6:=hr_cell hr.out 6 _ rfl
 have p0:=hr_cell hp.out 0 _ rfl
 have p1:=hr_cell hp.out 1 _ rfl
 have p2:=hr_cell hp.out 2 _ rfl
 have p3:=hr_cell hp.out 3 _ rfl
 have p4:=hr_cell hp.out 4 _ rfl
 have p5:=hr_cell hp.out 5 _ rfl
 have p6:=hr_cell hp.out 6 _ rfl
 go_wp2_with fail
 go_ret
 exact ⟨rfl,HS.out⟩
def AwK (f:Nat):Prop:=∀ w,Tab2 w -> Calls Tryd.prog f #[] w fun e w' => e = .returned (.bool true) /\ Since w w'
theorem AwK.calls0 {f:Nat} (h:AwK f) {w:World} (hT:Tab2 w) {R:Ending -> World -> Prop} (k:∀ w',Since w w' -> R (.returned (.bool true)) w'):Calls Tryd.prog f #[] w R :=
 (h w hT).mono fun _ _ ⟨he,hb⟩ => by subst he; exact k _ hb
theorem awake27:AwK 6:=by
 intro w hT
 have h1:=parse_k aT (by decide)
 have h2:=parse_k aS (by decide)
 rw [par_a] at h1
 rw [par_s] at h2
 exact awake_core aT aK aS rfl rfl rfl w hT h1 h2
end Rcd
end Go.Proofs.YtfnmakelbijmkaaDoor
