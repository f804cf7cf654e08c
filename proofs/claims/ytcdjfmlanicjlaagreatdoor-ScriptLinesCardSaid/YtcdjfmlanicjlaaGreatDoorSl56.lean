import Derived.Test.YtcdjfmlanicjlaaGreatDoorSl55
import Derived.Test.YtcdjfmlanicjlaaGreatDoorSl53
set_option maxRecDepth 100000
namespace Go.Proofs.YtcdjfmlanicjlaaGreatDoor
open Go.RowKit
namespace Scr
open Rw RwL Kind
open Rcd (hx)
set_option maxHeartbeats 16000000 in
theorem rtext_add (s:St) (hv:s.v.data.toList = addL) (hb9:s.b.size <= 40000) (w:World) (R:ByteArray) (HRR:Hid (R = bs (textV Rok s))):Calls Tryz.prog 10 #[.agg #[.string s.v,.string s.n,.string s.o,.int .i64 s.f,.string s.t,.string s.b]] w fun e w' => e = .returned (.string R) /\ Since w w':=by
 have HTX:=lH (text_at s [78,70,66] (by rw [hv]; rfl))
 have q1:(s.v.toList == ([112,117,116]:List UInt8)) = false:=by rw [toList_d,hv]; decide
 have q2:(s.v.toList == ([97,100,100]:List UInt8)) = true:=by rw [toList_d,hv]; decide
 have q10:(s.v.toList == ([112,117,116]:List UInt8)) = false:=by rw [toList_d,hv]; decide
 have c1:=rword_ret s.f
 have c2:=rname_ret s.n
 have c3:=rhex_mk s.b (by omega)
 obtain ⟨Wd,hWd⟩:∃ W,W = bs (wordF s.f):=⟨_,rfl⟩
 rw [<- hWd] at c1
 have hWl:Wd.data.toList = wordF s.f:=by rw [hWd,list_bs]
 have hWz:Wd.size <= 7:=by
   have h1:=word_len s.f
   rw [<- hWl] at h1
   exact h1
 obtain ⟨H,hH⟩:∃ H,H = bs (hexW s.b):=⟨_,rfl⟩
 rw [<- hH] at c3
 have hHl:H.data.toList = hexW s.b:=by rw [hH,list_bs]
 have hHz:H.size <= 80001:=hexW_size s.b hb9 H hHl
 have HWL:=lH hWl
 have HHL:=lH hHl
 have hvz:s.v.size = 3:=by show s.v.data.toList.length = _; rw [hv]; rfl
 clear hWd hH hHl hWl
 have HS0:=lH ((Since.refl w).alloc (.cells (sc s).toArray 23))
 have hlr:=lH ((rows_push (Rows.nil w w.heap.size) (Nat.le_refl _) (sc s) 23).own (RwL.lone 23 w.heap.size (sc s)) (by simp))
 go_enter Tryz.func10,Tryz.ntmps10
 go_wp2_with fail
 obtain ⟨wa,hwa⟩:∃ W,W = w.alloc (.cells (sc s).toArray 23):=⟨_,rfl⟩
 rw [show w.alloc (.cells #[.string s.v,.string s.n,.string s.o,.int .i64 s.f,.string s.t,.string s.b] 23) = wa from hwa.symm]
 rw [<- hwa] at hlr HS0
 clear hwa
 have hdr:Below wa.heap.size wa wa.drew:=⟨rfl,rfl,rfl,Nat.le_refl _,fun _ _ => rfl⟩
 replace hlr:=lH (Att.row_since hlr.out hdr)
 replace HS0:=lH (HS0.out.step hdr)
 clear hdr
 refine RegW.start (C6 w.heap.size s) 3 (by kernel_rfl) (c6_of hlr.out) (fun hHeld => ?_)
 obtain ⟨wb,hwb⟩:∃ W,W = wa.drew:=⟨_,rfl⟩
 rw [<- hwb] at hlr HS0 hHeld ⊢
 clear hwb
 refine RegW.take (i:=0) (v:=.agg #[.string s.v,.string s.n,.string s.o,.int .i64 s.f,.string s.t,.string s.b]) rfl (by kernel_rfl) (by kernel_rfl) (by kernel_rfl) (by kernel_rfl) (fun _ _ _ h => h) (Or.inl ⟨by kernel_rfl, ?_⟩) (by assumption) ?_
 · intro w hSw
   unfold C6 at hSw
   go_split_ands
   go_simp
   try with_reducible rfl
 try simp only [RegW.p]
 have hal:Since wb (wb.alloc (.cells #[.string ⟨#[]⟩,.string ⟨#[]⟩,.string ⟨#[]⟩,.int .i64 0,.string ⟨#[]⟩,.string ⟨#[]⟩] 23)):=(Since.refl wb).alloc _
 refine RegW.only (i:=1) rfl (by kernel_rfl) (fun K hK => ?_)
 go_simp
 refine hK.out _ _ (c6_of (Att.row_since hlr.out hal)) (fun hHeld2 => ?_)
 clear hK K hHeld hal
 try simp only [RegW.p]
 refine RegW.tk 2 rfl ?_
 try simp only [RegW.p]
 clear hHeld2
 refine RegW.last rfl (by kernel_rfl) (by kernel_rfl) ?_
 have HI:=lH (ri_new w wb w.heap.size s ⟨⟨#[]⟩,s.n,s.o,s.f,s.t,s.b⟩ hlr.out HS0.out)
 unfold sc at HI
 have m0:=ri_cs HI 0 _ rfl
 have m1:=ri_cs HI 1 _ rfl
 have m2:=ri_cs HI 2 _ rfl
 have m3:=ri_cs HI 3 _ rfl
 have m4:=ri_cs HI 4 _ rfl
 have m5:=ri_cs HI 5 _ rfl
 go_wp2_with fail
 obtain ⟨wc,hwc⟩:∃ W,W = wb.alloc (.cells #[.string ⟨#[]⟩,.string s.n,.string s.o,.int .i64 s.f,.string s.t,.string s.b] 23):=⟨_,rfl⟩
 rw [show wb.alloc (.cells #[.string ⟨#[]⟩,.string s.n,.string s.o,.int .i64 s.f,.string s.t,.string s.b] 23) = wc from hwc.symm]
 rw [show wb.alloc (.cells [.string ⟨#[]⟩,.string s.n,.string s.o,.int .i64 s.f,.string s.t,.string s.b].toArray 23) = wc from hwc.symm] at HI m0 m1 m2 m3 m4 m5
 clear hwc
 refine (c1 _).mono ?_
 rintro _ w8 ⟨rfl,rfl⟩
 by_cases hw:wordF s.f = []
 · have qw:(Wd.toList == ([]:List UInt8)) = true:=by rw [toList_d,HWL.out,hw]; rfl
   have HV:Hid (R = ⟨#[]⟩):=lH (by rw [HRR.out,HTX.out,if_neg (fun h => by have h9:=h.1; simp [okFF,hw] at h9)]; rfl)
   clear hw
   go_wp2_with fail
   go_ret
   rw [HV.out]
   exact ⟨rfl,HI.out.since⟩
 have qw:(Wd.toList == ([]:List UInt8)) = false:=by rw [toList_d,HWL.out]; exact beq_eq_false_iff_ne.2 hw
 have HWN:=lH hw
 clear hw
 go_wp2_with fail
 refine (c2 _).mono ?_
 rintro _ w8 ⟨rfl,rfl⟩
 cases hk:nameO s.n.data.toList
 · have HV:Hid (R = ⟨#[]⟩):=lH (by rw [HRR.out,HTX.out,if_neg (fun h => by have h9:=h.1; simp [okFN,hk] at h9)]; rfl)
   go_wp2_with fail
   go_ret
   rw [HV.out]
   exact ⟨rfl,HI.out.since⟩
 have hnz:s.n.size <= 100:=name_size hk
 have x1:¬ 9223372036854775807 < s.v.size + 1:=by omega
 have x2:¬ 9223372036854775807 < s.v.size + 1 + s.n.size:=by omega
 have x3:¬ 9223372036854775807 < s.v.size + 1 + s.n.size + 1:=by omega
 have x4:¬ 9223372036854775807 < s.v.size + 1 + s.n.size + 1 + Wd.size:=by omega
 have x5:¬ 9223372036854775807 < s.v.size + 1 + s.n.size + 1 + Wd.size + 1:=by omega
 have x6:¬ 9223372036854775807 < s.v.size + 1 + s.n.size + 1 + Wd.size + 1 + H.size:=by omega
 have y1:¬ 9223372036854775807 < s.v.size + (⟨#[32]⟩:ByteArray).size:=by rw [sp_size]; omega
 have y2:¬ 9223372036854775807 < (s.v ++ ⟨#[32]⟩).size + s.n.size:=by simp only [ByteArray.size_append,sp_size]; omega
 have y3:¬ 9223372036854775807 < (s.v ++ ⟨#[32]⟩ ++ s.n).size + (⟨#[32]⟩:ByteArray).size:=by simp only [ByteArray.size_append,sp_size]; omega
 have y4:¬ 9223372036854775807 < (s.v ++ ⟨#[32]⟩ ++ s.n ++ ⟨#[32]⟩).size + Wd.size:=by simp only [ByteArray.size_append,sp_size]; omega
 have y5:¬ 9223372036854775807 < (s.v ++ ⟨#[32]⟩ ++ s.n ++ ⟨#[32]⟩ ++ Wd).size + (⟨#[32]⟩:ByteArray).size:=by simp only [ByteArray.size_append,sp_size]; omega
 have y6:¬ 9223372036854775807 < (s.v ++ ⟨#[32]⟩ ++ s.n ++ ⟨#[32]⟩ ++ Wd ++ ⟨#[32]⟩).size + H.size:=by simp only [ByteArray.size_append,sp_size]; omega
 have HVZ:=lH hvz
 clear hvz
 by_cases hb:s.b.data.toList = []
 · have zb:(s.b.toList == ([]:List UInt8)) = true:=by rw [toList_d,hb]; rfl
   have HV:Hid (R = ⟨#[]⟩):=lH (by rw [HRR.out,HTX.out,if_neg (fun h => by have h9:=h.1; simp [okFB,hb] at h9)]; rfl)
   clear hb
   go_wp2_with fail
   go_ret
   rw [HV.out]
   exact ⟨rfl,HI.out.since⟩
 have zb:(s.b.toList == ([]:List UInt8)) = false:=by rw [toList_d]; exact beq_eq_false_iff_ne.2 hb
 have HBN:=lH hb
 clear hb
 go_wp2_with fail
 refine RegW.start (C6 w.heap.size s) 16 (by kernel_rfl) (c6_of (ri_os (ri_drew HI))) (fun hHeld => ?_)
 replace HI:=ri_drew HI
 obtain ⟨wq,hwq⟩:∃ W,W = wc.drew:=⟨_,rfl⟩
 rw [<- hwq] at HI hHeld ⊢
 clear hwq
 refine RegW.take (i:=0) (v:=?_) rfl (by kernel_rfl) (by kernel_rfl) (by kernel_rfl) (by kernel_rfl) (fun _ _ _ h => h) (Or.inl ⟨by kernel_rfl, ?_⟩) (by assumption) ?_
 rotate_left
 · intro w hSw
   unfold C6 at hSw
   go_split_ands
   go_simp
   try with_reducible rfl
 try simp only [RegW.p]
 refine RegW.take (i:=1) (v:=?_) rfl (by kernel_rfl) (by kernel_rfl) (by kernel_rfl) (by kernel_rfl) (fun _ _ _ h => h) (Or.inl ⟨by kernel_rfl, ?_⟩) (by assumption) ?_
 rotate_left
 · intro w hSw
   unfold C6 at hSw
   go_split_ands
   go_simp
   try with_reducible rfl
 try simp only [RegW.p]
 refine RegW.take (i:=2) (v:=?_) rfl (by kernel_rfl) (by kernel_rfl) (by kernel_rfl) (by kernel_rfl) (fun _ _ _ h => h) (Or.inl ⟨by kernel_rfl, ?_⟩) (by assumption) ?_
 rotate_left
 · intro w hSw
   unfold C6 at hSw
   go_split_ands
   go_simp
   try with_reducible rfl
 try simp only [RegW.p]
 refine RegW.take (i:=3) (v:=?_) rfl (by kernel_rfl) (by kernel_rfl) (by kernel_rfl) (by kernel_rfl) (fun _ _ _ h => h) (Or.inl ⟨by kernel_rfl, ?_⟩) (by assumption) ?_
 rotate_left
 · intro w hSw
   unfold C6 at hSw
   go_split_ands
   go_simp
   try with_reducible rfl
 try simp only [RegW.p]
 refine RegW.take (i:=4) (v:=?_) rfl (by kernel_rfl) (by kernel_rfl) (by kernel_rfl) (by kernel_rfl) (fun _ _ _ h => h) (Or.inl ⟨by kernel_rfl, ?_⟩) (by assumption) ?_
 rotate_left
 · intro w hSw
   unfold C6 at hSw
   go_split_ands
   go_simp
   try with_reducible rfl
 try simp only [RegW.p]
 refine RegW.take (i:=5) (v:=?_) rfl (by kernel_rfl) (by kernel_rfl) (by kernel_rfl) (by kernel_rfl) (fun _ _ _ h => h) (Or.inl ⟨by kernel_rfl, ?_⟩) (by assumption) ?_
 rotate_left
 · intro w hSw
   unfold C6 at hSw
   go_split_ands
   go_simp
   try with_reducible rfl
 try simp only [RegW.p]
 refine RegW.take (i:=6) (v:=?_) rfl (by kernel_rfl) (by kernel_rfl) (by kernel_rfl) (by kernel_rfl) (fun _ _ _ h => h) (Or.inl ⟨by kernel_rfl, ?_⟩) (by assumption) ?_
 rotate_left
 · intro w hSw
   unfold C6 at hSw
   go_split_ands
   go_simp
   try with_reducible rfl
 try simp only [RegW.p]
 refine RegW.take (i:=7) (v:=?_) rfl (by kernel_rfl) (by kernel_rfl) (by kernel_rfl) (by kernel_rfl) (fun _ _ _ h => h) (Or.inl ⟨by kernel_rfl, ?_⟩) (by assumption) ?_
 rotate_left
 · intro w hSw
   unfold C6 at hSw
   go_split_ands
   go_simp
   try with_reducible rfl
 try simp only [RegW.p]
 refine RegW.take (i:=8) (v:=?_) rfl (by kernel_rfl) (by kernel_rfl) (by kernel_rfl) (by kernel_rfl) (fun _ _ _ h => h) (Or.inl ⟨by kernel_rfl, ?_⟩) (by assumption) ?_
 rotate_left
 · intro w hSw
   unfold C6 at hSw
   go_split_ands
   go_simp
   try with_reducible rfl
 try simp only [RegW.p]
 refine RegW.take (i:=12) (v:=?_) rfl (by kernel_rfl) (by kernel_rfl) (by kernel_rfl) (by kernel_rfl) (fun _ _ _ h => h) (Or.inl ⟨by kernel_rfl, ?_⟩) (by assumption) ?_
 rotate_left
 · intro w hSw
   unfold C6 at hSw
   go_split_ands
   go_simp
   try with_reducible rfl
 try simp only [RegW.p]
 refine RegW.take (i:=13) (v:=?_) rfl (by kernel_rfl) (by kernel_rfl) (by kernel_rfl) (by kernel_rfl) (fun _ _ _ h => h) (Or.inl ⟨by kernel_rfl, ?_⟩) (by assumption) ?_
 rotate_left
 · intro w hSw
   unfold C6 at hSw
   go_split_ands
   go_simp
   try with_reducible rfl
 try simp only [RegW.p]
 refine RegW.only (i:=9) rfl (by kernel_rfl) (fun K hK => ?_)
 go_simp
 go_at_call 12
 refine (c1 _).mono ?_
 rintro _ w8 ⟨rfl,rfl⟩
 refine hK.out _ _ hHeld (fun hHeld2 => ?_)
 clear hK K hHeld2
 try simp only [RegW.p]
 refine RegW.take (i:=10) (v:=?_) rfl (by kernel_rfl) (by kernel_rfl) (by kernel_rfl) (by kernel_rfl) (fun _ _ _ h => h) (Or.inl ⟨by kernel_rfl, ?_⟩) (by assumption) ?_
 rotate_left
 · intro w hSw
   unfold C6 at hSw
   go_split_ands
   go_simp
   try with_reducible rfl
 try simp only [RegW.p]
 refine RegW.take (i:=11) (v:=?_) rfl (by kernel_rfl) (by kernel_rfl) (by kernel_rfl) (by kernel_rfl) (fun _ _ _ h => h) (Or.inl ⟨by kernel_rfl, ?_⟩) (by assumption) ?_
 rotate_left
 · intro w hSw
   unfold C6 at hSw
   go_split_ands
   go_simp
   try with_reducible rfl
 try simp only [RegW.p]
 refine RegW.only (i:=14) rfl (by kernel_rfl) (fun K hK => ?_)
 go_simp
 go_at_call 30
 refine c3.calls0 ?_
 intro w5 h5
 replace HI:=ri_step h5 HI
 clear hHeld
 refine hK.out _ _ (c6_of (ri_os HI)) (fun hHeld => ?_)
 clear hK K h5
 try simp only [RegW.p]
 refine RegW.take (i:=15) (v:=?_) rfl (by kernel_rfl) (by kernel_rfl) (by kernel_rfl) (by kernel_rfl) (fun _ _ _ h => h) (Or.inl ⟨by kernel_rfl, ?_⟩) (by assumption) ?_
 rotate_left
 · intro w hSw
   unfold C6 at hSw
   go_split_ands
   go_simp
   try with_reducible rfl
 try simp only [RegW.p]
 refine RegW.last rfl (by kernel_rfl) (by kernel_rfl) ?_
 clear hHeld
 obtain ⟨L1,hL1⟩:∃ L,L = s.v ++ ⟨#[32]⟩ ++ s.n ++ ⟨#[32]⟩ ++ Wd ++ ⟨#[32]⟩ ++ H:=⟨_,rfl⟩
 rw [<- hL1]
 have HL1:=lH hL1
 have hLz:L1.size <= 80200:=by
   rw [hL1]
   simp only [ByteArray.size_append,sp_size]
   have:=HVZ.out
   omega
 clear hL1
 have k1:=ri_cu HI 1 _ rfl
 replace HI:=ri_set HI 1 (by decide) (.string ⟨#[]⟩) ⟨⟨#[]⟩,⟨#[]⟩,s.o,s.f,s.t,s.b⟩ rfl
 have k3:=ri_cu HI 3 _ rfl
 replace HI:=ri_set HI 3 (by decide) (.int .i64 0) ⟨⟨#[]⟩,⟨#[]⟩,s.o,0,s.t,s.b⟩ rfl
 have k5:=ri_cu HI 5 _ rfl
 replace HI:=ri_set HI 5 (by decide) (.string ⟨#[]⟩) ⟨⟨#[]⟩,⟨#[]⟩,s.o,0,s.t,⟨#[]⟩⟩ rfl
 have HLI:Hid (lineW s [78,70,66] = L1.data.toList):=lH (by rw [HL1.out,app_list,app_list,app_list,app_list,app_list,app_list,HWL.out,HHL.out]; simp [lineW,Sp.joinC,wd])
 clear m0 m1 m2 m3 m4 m5
 have m0:=ri_cs HI 0 _ rfl
 have m1:=ri_cs HI 1 _ rfl
 have m2:=ri_cs HI 2 _ rfl
 have m3:=ri_cs HI 3 _ rfl
 have m4:=ri_cs HI 4 _ rfl
 have m5:=ri_cs HI 5 _ rfl
 have n0:=(ri_cu HI 0 _ rfl).1
 have n1:=(ri_cu HI 1 _ rfl).1
 have n2:=(ri_cu HI 2 _ rfl).1
 have n3:=(ri_cu HI 3 _ rfl).1
 have n4:=(ri_cu HI 4 _ rfl).1
 have n5:=(ri_cu HI 5 _ rfl).1
 by_cases ho:s.o.data.toList = []
 rotate_left
 · have zo:(s.o.toList == ([]:List UInt8)) = false:=by rw [toList_d]; exact beq_eq_false_iff_ne.2 ho
   have HV:Hid (R = ⟨#[]⟩):=lH (by rw [HRR.out,HTX.out,if_neg (fun h => by have h9:=h.2.1; rw [uo_add s] at h9; simp [ho] at h9)]; rfl)
   go_wp2_with fail
   go_ret
   rw [HV.out]
   exact ⟨rfl,HI.out.since⟩
 have zo:(s.o.toList == ([]:List UInt8)) = true:=by rw [toList_d,ho]; rfl
 have Ho:=lH ho
 clear ho
 by_cases ht:s.t.data.toList = []
 rotate_left
 · have zt:(s.t.toList == ([]:List UInt8)) = false:=by rw [toList_d]; exact beq_eq_false_iff_ne.2 ht
   have HV:Hid (R = ⟨#[]⟩):=lH (by rw [HRR.out,HTX.out,if_neg (fun h => by have h9:=h.2.1; rw [uo_add s] at h9; simp [ht] at h9)]; rfl)
   go_wp2_with fail
   go_ret
   rw [HV.out]
   exact ⟨rfl,HI.out.since⟩
 have zt:(s.t.toList == ([]:List UInt8)) = true:=by rw [toList_d,ht]; rfl
 have Ht:=lH ht
 clear ht
 by_cases hz:L1.size <= 40000
 · have t1:decide ((40000:Int) < (L1.size:Int)) = false:=decide_eq_false (by omega)
   have HV:Hid (R = L1):=lH (by
     rw [HRR.out,HTX.out,if_pos ⟨by simp [okFN,okFF,okFB,hk,HWN.out,HBN.out],by rw [uo_add,Ho.out,Ht.out]; rfl,by rw [HLI.out]; exact hz⟩,HLI.out,bs_l])
   go_wp2_with fail
   go_ret
   rw [HV.out]
   exact ⟨rfl,HI.out.since⟩
 · have t1:decide ((40000:Int) < (L1.size:Int)) = true:=decide_eq_true (by omega)
   have HV:Hid (R = ⟨#[]⟩):=lH (by
     rw [HRR.out,HTX.out,if_neg (fun h => hz (by
       have h9:=h.2.2
       rw [HLI.out] at h9
       exact h9))]
     rfl)
   go_wp2_with fail
   go_ret
   rw [HV.out]
   exact ⟨rfl,HI.out.since⟩
set_option maxHeartbeats 16000000 in
theorem rtext_put (s:St) (hv:s.v.data.toList = putL) (ht9:s.t.size <= 40000) (hb9:s.b.size <= 40000) (w:World) (hT:Tab2 w) (R:ByteArray) (HRR:Hid (R = bs (textV Rok s))):Calls Tryz.prog 10 #[.agg #[.string s.v,.string s.n,.string s.o,.int .i64 s.f,.string s.t,.string s.b]] w fun e w' => e = .returned (.string R) /\ Since w w':=by
 have HT:=lH hT
 have HTX:=lH (text_at s [78,70,66,84] (by rw [hv]; rfl))
 have q1:(s.v.toList == ([112,117,116]:List UInt8)) = true:=by rw [toList_d,hv]; decide
 have q10:(s.v.toList == ([97,100,100]:List UInt8)) = false:=by rw [toList_d,hv]; decide
 have c4:=Rcd.rparse_mk s.t ht9 (Rcd.parV s.t).1 (Rcd.parV s.t).2 rfl
 obtain ⟨RR,hRR⟩:∃ r,r = (Rcd.parV s.t).1:=⟨_,rfl⟩
 obtain ⟨E,hE⟩:∃ e,e = (Rcd.parV s.t).2:=⟨_,rfl⟩
 rw [<- hRR,<- hE] at c4
 have HRO:Hid (Rok s.t = decide (E = 0)):=lH (by unfold Rok; rw [hE])
 clear hT hRR hE
 have c1:=rword_ret s.f
 have c2:=rname_ret s.n
 have c3:=rhex_mk s.b (by omega)
 obtain ⟨Wd,hWd⟩:∃ W,W = bs (wordF s.f):=⟨_,rfl⟩
 rw [<- hWd] at c1
 have hWl:Wd.data.toList = wordF s.f:=by rw [hWd,list_bs]
 have hWz:Wd.size <= 7:=by
   have h1:=word_len s.f
   rw [<- hWl] at h1
   exact h1
 obtain ⟨H,hH⟩:∃ H,H = bs (hexW s.b):=⟨_,rfl⟩
 rw [<- hH] at c3
 have hHl:H.data.toList = hexW s.b:=by rw [hH,list_bs]
 have hHz:H.size <= 80001:=hexW_size s.b hb9 H hHl
 have HWL:=lH hWl
 have HHL:=lH hHl
 have hvz:s.v.size = 3:=by show s.v.data.toList.length = _; rw [hv]; rfl
 clear hWd hH hHl hWl
 have HS0:=lH ((Since.refl w).alloc (.cells (sc s).toArray 23))
 have hlr:=lH ((rows_push (Rows.nil w w.heap.size) (Nat.le_refl _) (sc s) 23).own (RwL.lone 23 w.heap.size (sc s)) (by simp))
 go_enter Tryz.func10,Tryz.ntmps10
 go_wp2_with fail
 obtain ⟨wa,hwa⟩:∃ W,W = w.alloc (.cells (sc s).toArray 23):=⟨_,rfl⟩
 rw [show w.alloc (.cells #[.string s.v,.string s.n,.string s.o,.int .i64 s.f,.string s.t,.string s.b] 23) = wa from hwa.symm]
 rw [<- hwa] at hlr HS0
 clear hwa
 have hdr:Below wa.heap.size wa wa.drew:=⟨rfl,rfl,rfl,Nat.le_refl _,fun _ _ => rfl⟩
 replace hlr:=lH (Att.row_since hlr.out hdr)
 replace HS0:=lH (HS0.out.step hdr)
 clear hdr
 refine RegW.start (C6 w.heap.size s) 3 (by kernel_rfl) (c6_of hlr.out) (fun hHeld => ?_)
 obtain ⟨wb,hwb⟩:∃ W,W = wa.drew:=⟨_,rfl⟩
 rw [<- hwb] at hlr HS0 hHeld ⊢
 clear hwb
 refine RegW.take (i:=0) (v:=.agg #[.string s.v,.string s.n,.string s.o,.int .i64 s.f,.string s.t,.string s.b]) rfl (by kernel_rfl) (by kernel_rfl) (by kernel_rfl) (by kernel_rfl) (fun _ _ _ h => h) (Or.inl ⟨by kernel_rfl, ?_⟩) (by assumption) ?_
 · intro w hSw
   unfold C6 at hSw
   go_split_ands
   go_simp
   try with_reducible rfl
 try simp only [RegW.p]
 have hal:Since wb (wb.alloc (.cells #[.string ⟨#[]⟩,.string ⟨#[]⟩,.string ⟨#[]⟩,.int .i64 0,.string ⟨#[]⟩,.string ⟨#[]⟩] 23)):=(Since.refl wb).alloc _
 refine RegW.only (i:=1) rfl (by kernel_rfl) (fun K hK => ?_)
 go_simp
 refine hK.out _ _ (c6_of (Att.row_since hlr.out hal)) (fun hHeld2 => ?_)
 clear hK K hHeld hal
 try simp only [RegW.p]
 refine RegW.tk 2 rfl ?_
 try simp only [RegW.p]
 clear hHeld2
 refine RegW.last rfl (by kernel_rfl) (by kernel_rfl) ?_
 have HI:=lH (ri_new w wb w.heap.size s ⟨⟨#[]⟩,s.n,s.o,s.f,s.t,s.b⟩ hlr.out HS0.out)
 unfold sc at HI
 have m0:=ri_cs HI 0 _ rfl
 have m1:=ri_cs HI 1 _ rfl
 have m2:=ri_cs HI 2 _ rfl
 have m3:=ri_cs HI 3 _ rfl
 have m4:=ri_cs HI 4 _ rfl
 have m5:=ri_cs HI 5 _ rfl
 go_wp2_with fail
 obtain ⟨wc,hwc⟩:∃ W,W = wb.alloc (.cells #[.string ⟨#[]⟩,.string s.n,.string s.o,.int .i64 s.f,.string s.t,.string s.b] 23):=⟨_,rfl⟩
 rw [show wb.alloc (.cells #[.string ⟨#[]⟩,.string s.n,.string s.o,.int .i64 s.f,.string s.t,.string s.b] 23) = wc from hwc.symm]
 rw [show wb.alloc (.cells [.string ⟨#[]⟩,.string s.n,.string s.o,.int .i64 s.f,.string s.t,.string s.b].toArray 23) = wc from hwc.symm] at HI m0 m1 m2 m3 m4 m5
 clear hwc
 refine (c1 _).mono ?_
 rintro _ w8 ⟨rfl,rfl⟩
 by_cases hw:wordF s.f = []
 · have qw:(Wd.toList == ([]:List UInt8)) = true:=by rw [toList_d,HWL.out,hw]; rfl
   have HV:Hid (R = ⟨#[]⟩):=lH (by rw [HRR.out,HTX.out,if_neg (fun h => by have h9:=h.1; simp [okFF,hw] at h9)]; rfl)
   clear hw
   go_wp2_with fail
   go_ret
   rw [HV.out]
   exact ⟨rfl,HI.out.since⟩
 have qw:(Wd.toList == ([]:List UInt8)) = false:=by rw [toList_d,HWL.out]; exact beq_eq_false_iff_ne.2 hw
 have HWN:=lH hw
 clear hw
 go_wp2_with fail
 refine (c2 _).mono ?_
 rintro _ w8 ⟨rfl,rfl⟩
 cases hk:nameO s.n.data.toList
 · have HV:Hid (R = ⟨#[]⟩):=lH (by rw [HRR.out,HTX.out,if_neg (fun h => by have h9:=h.1; simp [okFN,hk] at h9)]; rfl)
   go_wp2_with fail
   go_ret
   rw [HV.out]
   exact ⟨rfl,HI.out.since⟩
 have hnz:s.n.size <= 100:=name_size hk
 have x1:¬ 9223372036854775807 < s.v.size + 1:=by omega
 have x2:¬ 9223372036854775807 < s.v.size + 1 + s.n.size:=by omega
 have x3:¬ 9223372036854775807 < s.v.size + 1 + s.n.size + 1:=by omega
 have x4:¬ 9223372036854775807 < s.v.size + 1 + s.n.size + 1 + Wd.size:=by omega
 have x5:¬ 9223372036854775807 < s.v.size + 1 + s.n.size + 1 + Wd.size + 1:=by omega
 have x6:¬ 9223372036854775807 < s.v.size + 1 + s.n.size + 1 + Wd.size + 1 + H.size:=by omega
 have y1:¬ 9223372036854775807 < s.v.size + (⟨#[32]⟩:ByteArray).size:=by rw [sp_size]; omega
 have y2:¬ 9223372036854775807 < (s.v ++ ⟨#[32]⟩).size + s.n.size:=by simp only [ByteArray.size_append,sp_size]; omega
 have y3:¬ 9223372036854775807 < (s.v ++ ⟨#[32]⟩ ++ s.n).size + (⟨#[32]⟩:ByteArray).size:=by simp only [ByteArray.size_append,sp_size]; omega
 have y4:¬ 9223372036854775807 < (s.v ++ ⟨#[32]⟩ ++ s.n ++ ⟨#[32]⟩).size + Wd.size:=by simp only [ByteArray.size_append,sp_size]; omega
 have y5:¬ 9223372036854775807 < (s.v ++ ⟨#[32]⟩ ++ s.n ++ ⟨#[32]⟩ ++ Wd).size + (⟨#[32]⟩:ByteArray).size:=by simp only [ByteArray.size_append,sp_size]; omega
 have y6:¬ 9223372036854775807 < (s.v ++ ⟨#[32]⟩ ++ s.n ++ ⟨#[32]⟩ ++ Wd ++ ⟨#[32]⟩).size + H.size:=by simp only [ByteArray.size_append,sp_size]; omega
 have HVZ:=lH hvz
 clear hvz
 go_wp2_with fail
 refine RegW.start (C6 w.heap.size s) 16 (by kernel_rfl) (c6_of (ri_os (ri_drew HI))) (fun hHeld => ?_)
 replace HI:=ri_drew HI
 obtain ⟨wq,hwq⟩:∃ W,W = wc.drew:=⟨_,rfl⟩
 rw [<- hwq] at HI hHeld ⊢
 clear hwq
 refine RegW.take (i:=0) (v:=?_) rfl (by kernel_rfl) (by kernel_rfl) (by kernel_rfl) (by kernel_rfl) (fun _ _ _ h => h) (Or.inl ⟨by kernel_rfl, ?_⟩) (by assumption) ?_
 rotate_left
 · intro w hSw
   unfold C6 at hSw
   go_split_ands
   go_simp
   try with_reducible rfl
 try simp only [RegW.p]
 refine RegW.take (i:=1) (v:=?_) rfl (by kernel_rfl) (by kernel_rfl) (by kernel_rfl) (by kernel_rfl) (fun _ _ _ h => h) (Or.inl ⟨by kernel_rfl, ?_⟩) (by assumption) ?_
 rotate_left
 · intro w hSw
   unfold C6 at hSw
   go_split_ands
   go_simp
   try with_reducible rfl
 try simp only [RegW.p]
 refine RegW.take (i:=2) (v:=?_) rfl (by kernel_rfl) (by kernel_rfl) (by kernel_rfl) (by kernel_rfl) (fun _ _ _ h => h) (Or.inl ⟨by kernel_rfl, ?_⟩) (by assumption) ?_
 rotate_left
 · intro w hSw
   unfold C6 at hSw
   go_split_ands
   go_simp
   try with_reducible rfl
 try simp only [RegW.p]
 refine RegW.take (i:=3) (v:=?_) rfl (by kernel_rfl) (by kernel_rfl) (by kernel_rfl) (by kernel_rfl) (fun _ _ _ h => h) (Or.inl ⟨by kernel_rfl, ?_⟩) (by assumption) ?_
 rotate_left
 · intro w hSw
   unfold C6 at hSw
   go_split_ands
   go_simp
   try with_reducible rfl
 try simp only [RegW.p]
 refine RegW.take (i:=4) (v:=?_) rfl (by kernel_rfl) (by kernel_rfl) (by kernel_rfl) (by kernel_rfl) (fun _ _ _ h => h) (Or.inl ⟨by kernel_rfl, ?_⟩) (by assumption) ?_
 rotate_left
 · intro w hSw
   unfold C6 at hSw
   go_split_ands
   go_simp
   try with_reducible rfl
 try simp only [RegW.p]
 refine RegW.take (i:=5) (v:=?_) rfl (by kernel_rfl) (by kernel_rfl) (by kernel_rfl) (by kernel_rfl) (fun _ _ _ h => h) (Or.inl ⟨by kernel_rfl, ?_⟩) (by assumption) ?_
 rotate_left
 · intro w hSw
   unfold C6 at hSw
   go_split_ands
   go_simp
   try with_reducible rfl
 try simp only [RegW.p]
 refine RegW.take (i:=6) (v:=?_) rfl (by kernel_rfl) (by kernel_rfl) (by kernel_rfl) (by kernel_rfl) (fun _ _ _ h => h) (Or.inl ⟨by kernel_rfl, ?_⟩) (by assumption) ?_
 rotate_left
 · intro w hSw
   unfold C6 at hSw
   go_split_ands
   go_simp
   try with_reducible rfl
 try simp only [RegW.p]
 refine RegW.take (i:=7) (v:=?_) rfl (by kernel_rfl) (by kernel_rfl) (by kernel_rfl) (by kernel_rfl) (fun _ _ _ h => h) (Or.inl ⟨by kernel_rfl, ?_⟩) (by assumption) ?_
 rotate_left
 · intro w hSw
   unfold C6 at hSw
   go_split_ands
   go_simp
   try with_reducible rfl
 try simp only [RegW.p]
 refine RegW.take (i:=8) (v:=?_) rfl (by kernel_rfl) (by kernel_rfl) (by kernel_rfl) (by kernel_rfl) (fun _ _ _ h => h) (Or.inl ⟨by kernel_rfl, ?_⟩) (by assumption) ?_
 rotate_left
 · intro w hSw
   unfold C6 at hSw
   go_split_ands
   go_simp
   try with_reducible rfl
 try simp only [RegW.p]
 refine RegW.take (i:=12) (v:=?_) rfl (by kernel_rfl) (by kernel_rfl) (by kernel_rfl) (by kernel_rfl) (fun _ _ _ h => h) (Or.inl ⟨by kernel_rfl, ?_⟩) (by assumption) ?_
 rotate_left
 · intro w hSw
   unfold C6 at hSw
   go_split_ands
   go_simp
   try with_reducible rfl
 try simp only [RegW.p]
 refine RegW.take (i:=13) (v:=?_) rfl (by kernel_rfl) (by kernel_rfl) (by kernel_rfl) (by kernel_rfl) (fun _ _ _ h => h) (Or.inl ⟨by kernel_rfl, ?_⟩) (by assumption) ?_
 rotate_left
 · intro w hSw
   unfold C6 at hSw
   go_split_ands
   go_simp
   try with_reducible rfl
 try simp only [RegW.p]
 refine RegW.only (i:=9) rfl (by kernel_rfl) (fun K hK => ?_)
 go_simp
 go_at_call 12
 refine (c1 _).mono ?_
 rintro _ w8 ⟨rfl,rfl⟩
 refine hK.out _ _ hHeld (fun hHeld2 => ?_)
 clear hK K hHeld2
 try simp only [RegW.p]
 refine RegW.take (i:=10) (v:=?_) rfl (by kernel_rfl) (by kernel_rfl) (by kernel_rfl) (by kernel_rfl) (fun _ _ _ h => h) (Or.inl ⟨by kernel_rfl, ?_⟩) (by assumption) ?_
 rotate_left
 · intro w hSw
   unfold C6 at hSw
   go_split_ands
   go_simp
   try with_reducible rfl
 try simp only [RegW.p]
 refine RegW.take (i:=11) (v:=?_) rfl (by kernel_rfl) (by kernel_rfl) (by kernel_rfl) (by kernel_rfl) (fun _ _ _ h => h) (Or.inl ⟨by kernel_rfl, ?_⟩) (by assumption) ?_
 rotate_left
 · intro w hSw
   unfold C6 at hSw
   go_split_ands
   go_simp
   try with_reducible rfl
 try simp only [RegW.p]
 refine RegW.only (i:=14) rfl (by kernel_rfl) (fun K hK => ?_)
 go_simp
 go_at_call 30
 refine c3.calls0 ?_
 intro w5 h5
 replace HI:=ri_step h5 HI
 clear hHeld
 refine hK.out _ _ (c6_of (ri_os HI)) (fun hHeld => ?_)
 clear hK K h5
 try simp only [RegW.p]
 refine RegW.take (i:=15) (v:=?_) rfl (by kernel_rfl) (by kernel_rfl) (by kernel_rfl) (by kernel_rfl) (fun _ _ _ h => h) (Or.inl ⟨by kernel_rfl, ?_⟩) (by assumption) ?_
 rotate_left
 · intro w hSw
   unfold C6 at hSw
   go_split_ands
   go_simp
   try with_reducible rfl
 try simp only [RegW.p]
 refine RegW.last rfl (by kernel_rfl) (by kernel_rfl) ?_
 clear hHeld
 obtain ⟨L1,hL1⟩:∃ L,L = s.v ++ ⟨#[32]⟩ ++ s.n ++ ⟨#[32]⟩ ++ Wd ++ ⟨#[32]⟩ ++ H:=⟨_,rfl⟩
 rw [<- hL1]
 have HL1:=lH hL1
 have hLz:L1.size <= 80200:=by
   rw [hL1]
   simp only [ByteArray.size_append,sp_size]
   have:=HVZ.out
   omega
 clear hL1
 have k1:=ri_cu HI 1 _ rfl
 replace HI:=ri_set HI 1 (by decide) (.string ⟨#[]⟩) ⟨⟨#[]⟩,⟨#[]⟩,s.o,s.f,s.t,s.b⟩ rfl
 have k3:=ri_cu HI 3 _ rfl
 replace HI:=ri_set HI 3 (by decide) (.int .i64 0) ⟨⟨#[]⟩,⟨#[]⟩,s.o,0,s.t,s.b⟩ rfl
 have k5:=ri_cu HI 5 _ rfl
 replace HI:=ri_set HI 5 (by decide) (.string ⟨#[]⟩) ⟨⟨#[]⟩,⟨#[]⟩,s.o,0,s.t,⟨#[]⟩⟩ rfl
 have HLI:Hid (lineW s [78,70,66,84] = (L1 ++ ⟨#[32]⟩ ++ s.t).data.toList):=lH (by rw [app_list,app_list,HL1.out,app_list,app_list,app_list,app_list,app_list,app_list,HWL.out,HHL.out]; simp [lineW,Sp.joinC,wd])
 have y7:¬ 9223372036854775807 < L1.size + (⟨#[32]⟩:ByteArray).size:=by rw [sp_size]; omega
 have y8:¬ 9223372036854775807 < (L1 ++ ⟨#[32]⟩).size + s.t.size:=by rw [ByteArray.size_append,sp_size]; omega
 clear m0 m1 m2 m3 m4 m5
 have m0:=ri_cs HI 0 _ rfl
 have m1:=ri_cs HI 1 _ rfl
 have m2:=ri_cs HI 2 _ rfl
 have m3:=ri_cs HI 3 _ rfl
 have m4:=ri_cs HI 4 _ rfl
 have m5:=ri_cs HI 5 _ rfl
 go_wp2_with fail
 refine (c4 _ (Kp.keep HT.out HI.out.since)).mono ?_
 rintro _ w6 ⟨x,rfl,hx,h6⟩
 obtain ⟨A5,q5,rfl,-,-⟩:=hx.slice
 replace HI:=ri_step h6 HI
 obtain ⟨K7,k7,l7,u7,m7,v7,e7⟩:=RR
 obtain ⟨n7,hn7⟩:∃ n,n = l7.length:=⟨_,rfl⟩
 dsimp only
 rw [<- hn7]
 have hg5:=heap_alloc_new w6 (.cells #[.int .i64 0,.string ⟨#[]⟩,.slice none 0 0,.string ⟨#[]⟩,.string ⟨#[]⟩,.string ⟨#[]⟩,.string ⟨#[]⟩] 60)
 have hd:Since w6 ((w6.alloc (.cells #[.int .i64 0,.string ⟨#[]⟩,.slice none 0 0,.string ⟨#[]⟩,.string ⟨#[]⟩,.string ⟨#[]⟩,.string ⟨#[]⟩] 60)).setRow w6.heap.size #[.int .i64 K7,.string k7,.slice A5 n7 q5,.string u7,.string m7,.string v7,.string e7]):=below_setRow ((Since.refl w6).alloc _) (Nat.le_refl _) _
 replace HI:=ri_step hd HI
 clear h6 c4 hx hn7 hd m0 m1 m2 m3 m4 m5 k1 k3 k5
 unfold Rec.rv
 by_cases he:E = 0
 · subst he
   by_cases ho:s.o.data.toList = []
   · have zo:(s.o.toList == ([]:List UInt8)) = true:=by rw [toList_d,ho]; rfl
     have Ho:=lH ho
     clear ho
     by_cases hz:(L1 ++ ⟨#[32]⟩ ++ s.t).size <= 40000
     · have t1:decide ((40000:Int) < ((L1 ++ ⟨#[32]⟩ ++ s.t).size:Int)) = false:=decide_eq_false (by omega)
       have t2:¬ (40000:Int) < (L1.size:Int) + 1 + (s.t.size:Int):=by
         rw [ByteArray.size_append,ByteArray.size_append,sp_size] at hz
         omega
       have t3:decide ((40000:Int) < (L1.size:Int) + 1 + (s.t.size:Int)) = false:=decide_eq_false t2
       have HV:Hid (R = L1 ++ ⟨#[32]⟩ ++ s.t):=lH (by
         rw [HRR.out,HTX.out,if_pos ⟨by simp [okFN,okFF,okFB,okFT,hk,HWN.out,HRO.out],by rw [uo_put,Ho.out]; rfl,by rw [HLI.out]; exact hz⟩,HLI.out,bs_l])
       clear hz
       go_wp2_with (refine RwL.at_store (ty:=60) rfl ?_; refine wpList_store_row rfl 60 _ _ rfl w6.heap.size #[.int .i64 K7,.string k7,.slice A5 n7 q5,.string u7,.string m7,.string v7,.string e7] (by rfl) (by rfl) _ _ hg5 (Rcd.r7_info _ _ _ _ _ _ _) rfl (Rcd.r7_one _ _ _ _ _ _ _ _ _) ?_; obtain ⟨w9,hw9⟩:∃ W,W = (w6.alloc (.cells #[.int .i64 0,.string ⟨#[]⟩,.slice none 0 0,.string ⟨#[]⟩,.string ⟨#[]⟩,.string ⟨#[]⟩,.string ⟨#[]⟩] 60)).setRow w6.heap.size #[.int .i64 K7,.string k7,.slice A5 n7 q5,.string u7,.string m7,.string v7,.string e7]:=⟨_,rfl⟩; rw [<- hw9] at HI; rw [show (w6.alloc (.cells #[.int .i64 0,.string ⟨#[]⟩,.slice none 0 0,.string ⟨#[]⟩,.string ⟨#[]⟩,.string ⟨#[]⟩,.string ⟨#[]⟩] 60)).setRow w6.heap.size #[.int .i64 K7,.string k7,.slice A5 n7 q5,.string u7,.string m7,.string v7,.string e7] = w9 from hw9.symm]; have m4:=ri_cs HI 4 _ rfl; have k4:=ri_cu HI 4 _ rfl; replace HI:=ri_set HI 4 (by decide) (.string ⟨#[]⟩) ⟨⟨#[]⟩,⟨#[]⟩,s.o,0,⟨#[]⟩,⟨#[]⟩⟩ rfl; have n0:=(ri_cu HI 0 _ rfl).1; have n1:=(ri_cu HI 1 _ rfl).1; have n2:=(ri_cu HI 2 _ rfl).1; have n3:=(ri_cu HI 3 _ rfl).1; have n4:=(ri_cu HI 4 _ rfl).1; have n5:=(ri_cu HI 5 _ rfl).1; clear hw9 hg5)
       go_ret
       rw [HV.out]
       exact ⟨rfl,HI.out.since⟩
     · have t1:decide ((40000:Int) < ((L1 ++ ⟨#[32]⟩ ++ s.t).size:Int)) = true:=decide_eq_true (by omega)
       have t2:(40000:Int) < (L1.size:Int) + 1 + (s.t.size:Int):=by
         rw [ByteArray.size_append,ByteArray.size_append,sp_size] at hz
         omega
       have t3:decide ((40000:Int) < (L1.size:Int) + 1 + (s.t.size:Int)) = true:=decide_eq_true t2
       have HV:Hid (R = ⟨#[]⟩):=lH (by
         rw [HRR.out,HTX.out,if_neg (fun h => hz (by
           have h9:=h.2.2
           rw [HLI.out] at h9
           exact h9))]
         rfl)
       clear hz
       go_wp2_with (refine RwL.at_store (ty:=60) rfl ?_; refine wpList_store_row rfl 60 _ _ rfl w6.heap.size #[.int .i64 K7,.string k7,.slice A5 n7 q5,.string u7,.string m7,.string v7,.string e7] (by rfl) (by rfl) _ _ hg5 (Rcd.r7_info _ _ _ _ _ _ _) rfl (Rcd.r7_one _ _ _ _ _ _ _ _ _) ?_; obtain ⟨w9,hw9⟩:∃ W,W = (w6.alloc (.cells #[.int .i64 0,.string ⟨#[]⟩,.slice none 0 0,.string ⟨#[]⟩,.string ⟨#[]⟩,.string ⟨#[]⟩,.string ⟨#[]⟩] 60)).setRow w6.heap.size #[.int .i64 K7,.string k7,.slice A5 n7 q5,.string u7,.string m7,.string v7,.string e7]:=⟨_,rfl⟩; rw [<- hw9] at HI; rw [show (w6.alloc (.cells #[.int .i64 0,.string ⟨#[]⟩,.slice none 0 0,.string ⟨#[]⟩,.string ⟨#[]⟩,.string ⟨#[]⟩,.string ⟨#[]⟩] 60)).setRow w6.heap.size #[.int .i64 K7,.string k7,.slice A5 n7 q5,.string u7,.string m7,.string v7,.string e7] = w9 from hw9.symm]; have m4:=ri_cs HI 4 _ rfl; have k4:=ri_cu HI 4 _ rfl; replace HI:=ri_set HI 4 (by decide) (.string ⟨#[]⟩) ⟨⟨#[]⟩,⟨#[]⟩,s.o,0,⟨#[]⟩,⟨#[]⟩⟩ rfl; have n0:=(ri_cu HI 0 _ rfl).1; have n1:=(ri_cu HI 1 _ rfl).1; have n2:=(ri_cu HI 2 _ rfl).1; have n3:=(ri_cu HI 3 _ rfl).1; have n4:=(ri_cu HI 4 _ rfl).1; have n5:=(ri_cu HI 5 _ rfl).1; clear hw9 hg5)
       go_ret
       rw [HV.out]
       exact ⟨rfl,HI.out.since⟩
   · have zo:(s.o.toList == ([]:List UInt8)) = false:=by rw [toList_d]; exact beq_eq_false_iff_ne.2 ho
     have HV:Hid (R = ⟨#[]⟩):=lH (by rw [HRR.out,HTX.out,if_neg (fun h => by have h9:=h.2.1; rw [uo_put s] at h9; simp [ho] at h9)]; rfl)
     clear ho
     go_wp2_with (refine RwL.at_store (ty:=60) rfl ?_; refine wpList_store_row rfl 60 _ _ rfl w6.heap.size #[.int .i64 K7,.string k7,.slice A5 n7 q5,.string u7,.string m7,.string v7,.string e7] (by rfl) (by rfl) _ _ hg5 (Rcd.r7_info _ _ _ _ _ _ _) rfl (Rcd.r7_one _ _ _ _ _ _ _ _ _) ?_; obtain ⟨w9,hw9⟩:∃ W,W = (w6.alloc (.cells #[.int .i64 0,.string ⟨#[]⟩,.slice none 0 0,.string ⟨#[]⟩,.string ⟨#[]⟩,.string ⟨#[]⟩,.string ⟨#[]⟩] 60)).setRow w6.heap.size #[.int .i64 K7,.string k7,.slice A5 n7 q5,.string u7,.string m7,.string v7,.string e7]:=⟨_,rfl⟩; rw [<- hw9] at HI; rw [show (w6.alloc (.cells #[.int .i64 0,.string ⟨#[]⟩,.slice none 0 0,.string ⟨#[]⟩,.string ⟨#[]⟩,.string ⟨#[]⟩,.string ⟨#[]⟩] 60)).setRow w6.heap.size #[.int .i64 K7,.string k7,.slice A5 n7 q5,.string u7,.string m7,.string v7,.string e7] = w9 from hw9.symm]; have m4:=ri_cs HI 4 _ rfl; have k4:=ri_cu HI 4 _ rfl; replace HI:=ri_set HI 4 (by decide) (.string ⟨#[]⟩) ⟨⟨#[]⟩,⟨#[]⟩,s.o,0,⟨#[]⟩,⟨#[]⟩⟩ rfl; have n0:=(ri_cu HI 0 _ rfl).1; have n1:=(ri_cu HI 1 _ rfl).1; have n2:=(ri_cu HI 2 _ rfl).1; have n3:=(ri_cu HI 3 _ rfl).1; have n4:=(ri_cu HI 4 _ rfl).1; have n5:=(ri_cu HI 5 _ rfl).1; clear hw9 hg5)
     go_ret
     rw [HV.out]
     exact ⟨rfl,HI.out.since⟩
 · have r1:(E == 0) = false:=beq_eq_false_iff_ne.2 he
   have r2:(E != 0) = true:=by rw [bne,r1]; rfl
   have HV:Hid (R = ⟨#[]⟩):=lH (by rw [HRR.out,HTX.out,if_neg (fun h => by have h9:=h.1; simp [okFT,HRO.out,he] at h9)]; rfl)
   clear he
   go_wp2_with (refine RwL.at_store (ty:=60) rfl ?_; refine wpList_store_row rfl 60 _ _ rfl w6.heap.size #[.int .i64 K7,.string k7,.slice A5 n7 q5,.string u7,.string m7,.string v7,.string e7] (by rfl) (by rfl) _ _ hg5 (Rcd.r7_info _ _ _ _ _ _ _) rfl (Rcd.r7_one _ _ _ _ _ _ _ _ _) ?_; obtain ⟨w9,hw9⟩:∃ W,W = (w6.alloc (.cells #[.int .i64 0,.string ⟨#[]⟩,.slice none 0 0,.string ⟨#[]⟩,.string ⟨#[]⟩,.string ⟨#[]⟩,.string ⟨#[]⟩] 60)).setRow w6.heap.size #[.int .i64 K7,.string k7,.slice A5 n7 q5,.string u7,.string m7,.string v7,.string e7]:=⟨_,rfl⟩; rw [<- hw9] at HI; rw [show (w6.alloc (.cells #[.int .i64 0,.string ⟨#[]⟩,.slice none 0 0,.string ⟨#[]⟩,.string ⟨#[]⟩,.string ⟨#[]⟩,.string ⟨#[]⟩] 60)).setRow w6.heap.size #[.int .i64 K7,.string k7,.slice A5 n7 q5,.string u7,.string m7,.string v7,.string e7] = w9 from hw9.symm]; skip; clear hw9 hg5)
   go_ret
   rw [HV.out]
   exact ⟨rfl,HI.out.since⟩
end Scr
namespace Scr
open Rw RwL Kind
theorem rtext_k (s:St) (hn:s.n.size <= 40000) (ho:s.o.size <= 40000) (ht:s.t.size <= 40000) (hb:s.b.size <= 40000):KMk Tab2 10 #[.agg #[.string s.v,.string s.n,.string s.o,.int .i64 s.f,.string s.t,.string s.b]] (.string (bs (textV Rok s))):=by
 intro w hT
 by_cases h1:s.v.data.toList = putL
 · exact rtext_put s h1 ht hb w hT _ (lH rfl)
 by_cases h2:s.v.data.toList = addL
 · exact rtext_add s h2 hb w _ (lH rfl)
 by_cases h3:s.v.data.toList = getL
 · exact rtext_get s h3 hn w hT _ (lH rfl)
 by_cases h4:s.v.data.toList = expL
 · exact rtext_exp s h4 hn w hT _ (lH rfl)
 by_cases h5:s.v.data.toList = droL
 · exact rtext_dro s h5 hn w hT _ (lH rfl)
 by_cases h6:s.v.data.toList = cheL
 · exact rtext_che s h6 hn w hT _ (lH rfl)
 by_cases h7:s.v.data.toList = movL
 · exact rtext_mov s h7 hn ho hb w _ (lH rfl)
 by_cases h8:s.v.data.toList = rekL
 · exact rtext_rek s h8 hn ho hb w _ (lH rfl)
 by_cases h9:s.v.data.toList = lisL
 · exact rtext_list s h9 w _ (lH rfl)
 exact rtext_none s h1 h2 h3 h4 h5 h6 h7 h8 h9 w _ (lH rfl)
theorem splN_le (c:UInt8) (k:Nat) (l:List UInt8):∀ w ∈ Sp.splN c (k + 1) l,w.length <= l.length:=by
 intro w hw
 have h1:=Sp.splB_list c k (bs l)
 rw [list_bs] at h1
 rw [<- h1] at hw
 obtain ⟨x,hx,rfl⟩:=List.mem_map.1 hw
 have h2:=Sp.splB_le c k (bs l) x hx
 rw [size_bs] at h2
 exact h2
theorem joinC_snoc (c:UInt8) (a:List UInt8):∀ ws:List (List UInt8),ws ≠ [] -> Sp.joinC c (ws ++ [a]) = Sp.joinC c ws ++ c :: a
 | [],h => absurd rfl h
 | [w],_ => rfl
 | w :: v :: ws,_ => by
   have ih:=joinC_snoc c a (v :: ws) (List.cons_ne_nil _ _)
   rw [List.cons_append,Sp.joinC_cons c _ _ (by simp),ih,Sp.joinC_cons c w (v :: ws) (List.cons_ne_nil _ _),List.append_assoc]
   rfl
def WQ (l:List UInt8) (P:List (List UInt8)) (S:List UInt8):Prop:=P.length <= 4 /\ Sp.splN 32 5 l = P ++ [S] /\ (P.length < 4 -> Sp.pcs 32 l = P ++ [S])
theorem wq_all {l:List UInt8} {P:List (List UInt8)} {S:List UInt8} (hl:P.length <= 4) (h:Sp.pcs 32 l = P ++ [S]):WQ l P S:=by
 refine ⟨hl, ?_,fun _ => h⟩
 rw [Sp.splN_all 32 5 l (by rw [h,List.length_append]; show P.length + 1 <= 5; omega),h]
theorem wq_next (l:List UInt8) (P:List (List UInt8)) (S:List UInt8) (x:UInt8) (h:WQ l P S):WQ (l ++ [x]) (if x = 32 /\ P.length < 4 then P ++ [S] else P) (if x = 32 /\ P.length < 4 then [] else S ++ [x]):=by
 obtain ⟨h1,h2,h3⟩:=h
 by_cases hp:P.length < 4
 · have h4:=Rcd.pcs_snoc 32 x l P S (h3 hp)
   by_cases hx:x = 32
   · rw [if_pos ⟨hx,hp⟩,if_pos ⟨hx,hp⟩]
     rw [if_pos hx] at h4
     exact wq_all (by rw [List.length_append]; exact hp) h4
   · rw [if_neg (fun h9 => hx h9.1),if_neg (fun h9 => hx h9.1)]
     rw [if_neg hx] at h4
     exact wq_all (by omega) h4
 · rw [if_neg (fun h9 => hp h9.2),if_neg (fun h9 => hp h9.2)]
   refine ⟨h1, ?_,fun h9 => absurd h9 hp⟩
   obtain ⟨A,o,hA⟩:∃ A o,Sp.pcs 32 l = A ++ [o]:=by
     rcases List.eq_nil_or_concat (Sp.pcs 32 l) with h9 | ⟨A,o,h9⟩
     · exact absurd h9 (Sp.pcs_ne 32 l)
     · exact ⟨A,o,by rw [h9,List.concat_eq_append]⟩
   have hl5:4 < (Sp.pcs 32 l).length:=by
     refine Classical.byContradiction fun h9 => ?_
     have h8:=congrArg List.length h2
     rw [Sp.splN_all 32 5 l (by omega),List.length_append] at h8
     have:P.length + 1 = P.length + [S].length:=rfl
     omega
   have hAl:4 <= A.length:=by
     rw [hA,List.length_append] at hl5
     have:[o].length = 1:=rfl
     omega
   unfold Sp.splN at h2
   rw [if_pos (by exact hl5),hA] at h2
   have e1:(A ++ [o]).take (5 - 1) = A.take 4:=List.take_append_of_le_length hAl
   have e2:(A ++ [o]).drop (5 - 1) = A.drop 4 ++ [o]:=List.drop_append_of_le_length hAl
   rw [e1,e2] at h2
   obtain ⟨h5,h6⟩:=List.append_inj' h2 rfl
   have h7:=(List.cons.inj h6).1
   have h4:=Rcd.pcs_snoc 32 x l A o hA
   unfold Sp.splN
   by_cases hx:x = 32
   · rw [if_pos hx] at h4
     rw [h4,if_pos (by rw [List.length_append,List.length_append]; show 5 - 1 < A.length + 1 + 1; omega)]
     have e3:((A ++ [o]) ++ [[]]).take (5 - 1) = A.take 4:=by rw [List.append_assoc]; exact List.take_append_of_le_length hAl
     have e4:((A ++ [o]) ++ [[]]).drop (5 - 1) = (A.drop 4 ++ [o]) ++ [[]]:=by rw [List.append_assoc,List.append_assoc]; exact List.drop_append_of_le_length hAl
     rw [e3,e4,h5,joinC_snoc 32 [] _ (by simp),h7,hx]
   · rw [if_neg hx] at h4
     rw [h4,if_pos (by rw [List.length_append]; show 5 - 1 < A.length + 1; omega)]
     have e3:(A ++ [o ++ [x]]).take (5 - 1) = A.take 4:=List.take_append_of_le_length hAl
     have e4:(A ++ [o ++ [x]]).drop (5 - 1) = A.drop 4 ++ [o ++ [x]]:=List.drop_append_of_le_length hAl
     rw [e3,e4,h5]
     congr 2
     rw [<- h7]
     cases hd:A.drop 4 with
     | nil => rfl
     | cons y ys =>
       rw [joinC_snoc 32 _ _ (List.cons_ne_nil _ _),joinC_snoc 32 _ _ (List.cons_ne_nil _ _)]
       simp
set_option maxHeartbeats 4000000 in
theorem rwords_mk (t:ByteArray) (hm:t.size <= 100000) (w:World):Calls Tryz.prog 22 #[.string t,.int .i64 5] w fun e w' => ∃ v L,e = .returned v /\ Atf.SRow w w' v L /\ L.map (·.data.toList) = Sp.splN 32 5 t.data.toList /\ (∀ x ∈ L,x.size <= t.size) /\ Since w w':=by
 have HM:=lH hm
 have HZ:Hid (∀ L:List ByteArray,L.map (·.data.toList) = Sp.splN 32 5 t.data.toList -> ∀ x ∈ L,x.size <= t.size):=lH fun L hL x hx => splN_le 32 4 t.data.toList x.data.toList (by rw [<- hL]; exact List.mem_map.2 ⟨x,hx,rfl⟩)
 clear hm
 go_enter Tryz.func22,Tryz.ntmps22
 go_wp2_with fail
 go_loopw [5,6,7] (fun V o i wr => ∃ (k:Nat) (P:List ByteArray) (S:ByteArray),k <= t.size /\ i = .int .i64 (k:Int) /\ o = .string S /\ Hid (WQ (t.data.toList.take k) (P.map (·.data.toList)) S.data.toList) /\ P.length <= 4 /\ Hid (S.size <= k) /\ Hid (Atf.SRow w wr V P) /\ Hid (Since w wr)) (fun _ _ i _ => t.size - (intOf i).toNat)
 case atStart => exact ⟨0,[],⟨#[]⟩,Nat.zero_le _,rfl,rfl,lH (wq_all (by decide) rfl),by decide,lH (Nat.le_refl _),lH (Atf.SRow.nil _ _),lH (Since.refl w)⟩
 case round =>
   obtain ⟨k,P,S,hk,rfl,rfl,HP,hL,HB,HR,HS⟩:=hrel
   obtain ⟨VA,vc,rfl,-⟩:=HR.out.val
   by_cases hlt:k < t.size
   · have HTB:=lH (Rcd.take_byte t k hlt)
     have HBC:=lH (Rcd.byte_cut t k hlt)
     have i1:(0:Int) <= (k:Int):=by omega
     have i2:(k:Int) < (t.size:Int):=by omega
     have e1:IntKind.i64.wrap ((k:Int) + 1) = ((k + 1:Nat):Int):=by rw [IntWalk.i64_in _ (by have:=HM.out; omega)]; omega
     have hnx:=wq_next _ _ _ t[k] HP.out
     rw [List.length_map] at hnx
     by_cases hc:t[k] = 32 /\ P.length < 4
     · have t1:((t[k].toNat:Int) == 32) = true:=by rw [hc.1]; rfl
       have hp4:=hc.2
       have t2:decide (P.length < 4) = true:=decide_eq_true hp4
       have t3:decide ((P.length:Int) < 4) = true:=decide_eq_true (by omega)
       rw [if_pos hc,if_pos hc] at hnx
       have HP2:Hid (WQ (t.data.toList.take (k + 1)) ((P ++ [S]).map (·.data.toList)) (⟨#[]⟩:ByteArray).data.toList):=lH (by
         rw [HTB.out,List.map_append]
         exact hnx)
       have HB1:=lH (show P.length + 1 <= maxLen by unfold maxLen; omega)
       have HB2:=lH (show (P.length + 1) * 16 <= 140737488355328 by omega)
       clear hc HBC hnx
       go_wp2_with (at_builtin; refine app_rows elemS rfl _ _ (by rfl) w wr _ rfl [] [] _ P.length _ (by rfl) HR.out HS.out #[.string S] 1 1 (by rfl) rfl (Atf.s_one S) HB1.out HB2.out ?_; intro V2 w4 HQ2 HT2 _)
       have HF:Hid (Atf.SRow w w4 V2 (P ++ [S])):=lH (Atf.SRow.app S HQ2)
       have HS4:=lH HT2
       clear HQ2 HT2
       go_wp2_with fail
       go_roundw
       case rel => exact ⟨k + 1,P ++ [S],⟨#[]⟩,hlt,by go_num,rfl,HP2,by rw [List.length_append]; exact hp4,lH (Nat.zero_le _),HF,HS4⟩
       case measure => (simp [intOf] <;> omega)
     · rw [if_neg hc,if_neg hc] at hnx
       have HZ1:Hid ((S ++ t.extract k (k + 1)).size = S.size + 1):=lH (by
         have h8:=congrArg List.length (app_list S (t.extract k (k + 1)))
         rw [HBC.out,List.length_append,list_bs] at h8
         rw [HBC.out]
         exact h8)
       have HP2:Hid (WQ (t.data.toList.take (k + 1)) (P.map (·.data.toList)) (S ++ t.extract k (k + 1)).data.toList):=lH (by
         rw [HTB.out,app_list,HBC.out,list_bs]
         exact hnx)
       have z1:¬ 9223372036854775807 < S.size + (t.extract k (k + 1)).size:=by
         rw [HBC.out,size_bs]
         have:=HB.out
         have:=HM.out
         show ¬ 9223372036854775807 < S.size + 1
         omega
       have n1:((k + 1:Nat):Int).toNat = k + 1:=by omega
       have z2:((k + 1:Nat):Int) <= (t.size:Int):=by omega
       have z3:(k:Int) <= ((k + 1:Nat):Int):=by omega
       have z4:(0:Int) <= ((k + 1:Nat):Int):=by omega
       by_cases h32:t[k] = 32
       · have hp4:¬ P.length < 4:=fun h9 => hc ⟨h32,h9⟩
         have t1:((t[k].toNat:Int) == 32) = true:=by rw [h32]; rfl
         have t2:decide (P.length < 4) = false:=decide_eq_false hp4
         have t3:decide ((P.length:Int) < 4) = false:=decide_eq_false (by omega)
         clear hc HBC hnx h32
         go_wp2_with fail
         go_roundw
         case rel => exact ⟨k + 1,P,S ++ t.extract k (k + 1),hlt,by go_num,rfl,HP2,hL,lH (by rw [HZ1.out]; exact Nat.succ_le_succ HB.out),HR,HS⟩
         case measure => (simp [intOf] <;> omega)
       · have t1:((t[k].toNat:Int) == 32) = false:=beq_eq_false_iff_ne.2 (fun h => h32 (UInt8.toNat_inj.1 (by show t[k].toNat = 32; omega)))
         clear hc HBC hnx h32
         go_wp2_with fail
         go_roundw
         case rel => exact ⟨k + 1,P,S ++ t.extract k (k + 1),hlt,by go_num,rfl,HP2,hL,lH (by rw [HZ1.out]; exact Nat.succ_le_succ HB.out),HR,HS⟩
         case measure => (simp [intOf] <;> omega)
   · obtain rfl:k = t.size:=by omega
     have HB1:=lH (show P.length + 1 <= maxLen by unfold maxLen; omega)
     have HB2:=lH (show (P.length + 1) * 16 <= 140737488355328 by omega)
     have HE:Hid ((P ++ [S]).map (·.data.toList) = Sp.splN 32 5 t.data.toList):=lH (by
       have h9:=HP.out.2.1
       rw [List.take_of_length_le (by simp)] at h9
       rw [h9,List.map_append]
       rfl)
     have HE2:=lH (HZ.out _ HE.out)
     clear HZ
     go_wp2_with (at_builtin; refine app_rows elemS rfl _ _ (by rfl) w wr _ rfl [] [] _ P.length _ (by rfl) HR.out HS.out #[.string S] 1 1 (by rfl) rfl (Atf.s_one S) HB1.out HB2.out ?_; intro V2 w4 HQ2 HT2 _)
     have HF:Hid (Atf.SRow w w4 V2 (P ++ [S])):=lH (Atf.SRow.app S HQ2)
     have HS4:=lH HT2
     clear HQ2 HT2
     go_wp2_with fail
     go_ret
     exact ⟨_,rfl,P ++ [S],HF.out,HE.out,HE2.out,HS4.out⟩
end Scr
namespace Scr
open Rw RwL Kind
def candX (v x1 x2 x3 x4:ByteArray):St :=
 if v.data.toList = putL ∨ v.data.toList = addL then ⟨v,x1,E0,fmtW x2.data.toList,x4,Dig.unS x3.data.toList⟩
 else if v.data.toList = getL ∨ v.data.toList = expL ∨ v.data.toList = droL ∨ v.data.toList = cheL then ⟨v,x1,E0,0,E0,E0⟩
 else if v.data.toList = movL then ⟨v,x1,x2,0,E0,E0⟩
 else if v.data.toList = rekL then ⟨v,E0,E0,0,E0,Dig.unS x1.data.toList⟩
 else ⟨v,E0,E0,0,E0,E0⟩
theorem cand_at (l:List UInt8) (L:List ByteArray) (hL:L.map (·.data.toList) = Sp.splN 32 5 l) (v x1 x2 x3 x4:ByteArray) (T:List ByteArray) (h:L ++ [E0,E0,E0,E0] = v :: x1 :: x2 :: x3 :: x4 :: T):candR l = candX v x1 x2 x3 x4:=by
 have e:Sp.splN 32 5 l ++ [[],[],[],[]] = v.data.toList :: x1.data.toList :: x2.data.toList :: x3.data.toList :: x4.data.toList :: T.map (·.data.toList):=by
   have h1:=congrArg (List.map (·.data.toList)) h
   rw [List.map_append,hL] at h1
   exact h1
 unfold candR candX
 rw [e]
 simp only [List.getD_cons_zero,List.getD_cons_succ,bs_l]
theorem five (L:List ByteArray) (m:Nat) (h1:1 <= L.length) (hz:∀ x ∈ L,x.size <= m):∃ v x1 x2 x3 x4 T,L ++ [E0,E0,E0,E0] = v :: x1 :: x2 :: x3 :: x4 :: T /\ v.size <= m /\ x1.size <= m /\ x2.size <= m /\ x3.size <= m /\ x4.size <= m:=by
 have h2:∀ x ∈ L ++ [E0,E0,E0,E0],x.size <= m:=by
   intro x hx
   rcases List.mem_append.1 hx with hx | hx
   · exact hz x hx
   · simp only [List.mem_cons,List.not_mem_nil,or_false,or_self] at hx
     rw [hx]
     exact Nat.zero_le _
 have h3:5 <= (L ++ [E0,E0,E0,E0]).length:=by rw [List.length_append]; show 5 <= L.length + 4; omega
 generalize L ++ [E0,E0,E0,E0] = M at h2 h3
 match M,h3 with
 | v :: x1 :: x2 :: x3 :: x4 :: T,_ =>
   exact ⟨v,x1,x2,x3,x4,T,rfl,h2 v (by simp),h2 x1 (by simp),h2 x2 (by simp),h2 x3 (by simp),h2 x4 (by simp)⟩
theorem splN_pos (c:UInt8) (k:Nat) (l:List UInt8):1 <= (Sp.splN c (k + 1) l).length:=by
 have h0:0 < (Sp.pcs c l).length:=List.length_pos_iff.2 (Sp.pcs_ne c l)
 unfold Sp.splN
 rw [List.length_append,List.length_take]
 split
 · show 1 <= _ + 1
   omega
 · show 1 <= _ + 0
   omega
theorem cand_size (v x1 x2 x3 x4:ByteArray) (m:Nat) (h1:x1.size <= m) (h2:x2.size <= m) (h3:x3.size <= m) (h4:x4.size <= m):(candX v x1 x2 x3 x4).n.size <= m /\ (candX v x1 x2 x3 x4).o.size <= m /\ (candX v x1 x2 x3 x4).t.size <= m /\ (candX v x1 x2 x3 x4).b.size <= m:=by
 have u1:(Dig.unS x1.data.toList).size <= m:=Nat.le_trans (unS_size _) h1
 have u3:(Dig.unS x3.data.toList).size <= m:=Nat.le_trans (unS_size _) h3
 unfold candX
 split
 · exact ⟨h1,Nat.zero_le _,h4,u3⟩
 split
 · exact ⟨h1,Nat.zero_le _,Nat.zero_le _,Nat.zero_le _⟩
 split
 · exact ⟨h1,h2,Nat.zero_le _,Nat.zero_le _⟩
 split
 · exact ⟨Nat.zero_le _,Nat.zero_le _,Nat.zero_le _,u1⟩
 · exact ⟨Nat.zero_le _,Nat.zero_le _,Nat.zero_le _,Nat.zero_le _⟩
theorem four_one:∀ u ∈ (#[.string ⟨#[]⟩,.string ⟨#[]⟩,.string ⟨#[]⟩,.string ⟨#[]⟩]:Array Value).toList,u.oneCell' = true:=by
 intro u hu
 simp only [List.mem_cons,List.not_mem_nil,or_false,or_self] at hu
 subst hu
 rfl
structure QI (w:World) (r b gw n c:Nat) (L:List ByteArray) (S:St) (W:World):Prop where
 rows:Rw.Rows W w.heap.size ([] ++ RwL.lone 23 b (sc S) :: [RwL.lone 23 r (sc noS),⟨9,1,.slice (some ⟨gw,0,none⟩) n c,n,L.map Value.string⟩])
 since:Since w W
section
variable {w W W':World} {r b gw n c:Nat} {L:List ByteArray} {S:St}
theorem qi_step (hb:Since W W') (h:Hid (QI w r b gw n c L S W)):Hid (QI w r b gw n c L S W'):=lH ⟨h.out.rows.since hb,h.out.since.step hb⟩
theorem qi_drew (h:Hid (QI w r b gw n c L S W)):Hid (QI w r b gw n c L S W.drew):=by
 have hd:Below W.heap.size W W.drew:=⟨rfl,rfl,rfl,Nat.le_refl _,fun _ _ => rfl⟩
 exact qi_step hd h
theorem qi_box (h:Hid (QI w r b gw n c L S W)):(RwL.lone 23 b (sc S)).own W w.heap.size:=h.out.rows.own _ (by simp)
theorem qi_cells (h:Hid (QI w r b gw n c L S W)) (i:Nat) (x:Value) (hx:(sc S)[i]? = some x):W.cell? ⟨b,i,none⟩ = some x /\ W.frozen? ⟨b,i,none⟩ = false:=RwL.lone_cell (qi_box h) i x hx
theorem qi_set (h:Hid (QI w r b gw n c L S W)) (i:Nat) (hi:i < 6) (x:Value) (S':St) (hS:sc S' = (sc S).set i x):Hid (QI w r b gw n c L S' (W.setCell ⟨b,i,none⟩ x)):=by
 refine lH ⟨?_,Below.setCell (p:=⟨b,i,none⟩) h.out.since (lone_base (qi_box h)) x⟩
 have h1:=Rw.Rows.set (A:=[]) (B:=[RwL.lone 23 r (sc noS),⟨9,1,.slice (some ⟨gw,0,none⟩) n c,n,L.map Value.string⟩]) (xs:=sc S) h.out.rows i (by show i < 1 * (sc S).length; show i < 1 * 6; omega) x
 rw [<- hS] at h1
 exact h1
theorem qi_res (h:Hid (QI w r b gw n c L S W)):W.heap[r]? = some (.cells (sc noS).toArray 23 (0,0)):=RwL.lone_heap (h.out.rows.own (RwL.lone 23 r (sc noS)) (by simp))
theorem qi_word (h:Hid (QI w r b gw n c L S W)) (i:Nat) (x:ByteArray) (hx:L[i]? = some x):W.cell? ⟨gw,i,none⟩ = some (.string x) :=
 Rcd.own_cell (h.out.rows.own ⟨9,1,.slice (some ⟨gw,0,none⟩) n c,n,L.map Value.string⟩ (by simp)) i _ (by rw [List.getElem?_map,hx]; rfl)
theorem qi_new {w1 W4:World} (hlr:(RwL.lone 23 r (sc noS)).own w1 w.heap.size) (h0:Since w w1) (h4:Since w1 W4) (hq:W4.ownsRow w1.heap.size 9 1 (.slice (some ⟨gw,0,none⟩) n c) n (L.map Value.string)) (S:St):QI w r W4.heap.size gw n c L S (W4.alloc (.cells (sc S).toArray 23)):=by
 have h1:Rw.Rows W4 w.heap.size ([RwL.lone 23 r (sc noS)] ++ [⟨9,1,.slice (some ⟨gw,0,none⟩) n c,n,L.map Value.string⟩]) :=
   Tree.rows_merge ⟨fun q hq => by rw [List.mem_singleton.1 hq]; exact hlr,by simp⟩ h4 ⟨fun q hq2 => by rw [List.mem_singleton.1 hq2]; exact hq,by simp⟩ (Below.size h0)
 have h5:=h0.step h4
 exact ⟨rows_push h1 (Below.size h5) (sc S) 23,h5.alloc _⟩
end
theorem rs6_info (a b c d e f:Value):(Tryz.prog.info? 23).map (·.size) = some (#[a,b,c,d,e,f]:Array Value).size:=by kernel_rfl
end Scr
end Go.Proofs.YtcdjfmlanicjlaaGreatDoor
