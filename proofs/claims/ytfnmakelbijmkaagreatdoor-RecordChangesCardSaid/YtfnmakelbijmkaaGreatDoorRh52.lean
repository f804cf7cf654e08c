import Derived.Test.YtfnmakelbijmkaaGreatDoorRh51
set_option maxRecDepth 100000
namespace Go.Proofs.YtfnmakelbijmkaaGreatDoor
open Go.RowKit
namespace Rcd
open Att Kind Rec Atf Rw Flt Tlv
theorem text_list {K:Int} {k:ByteArray} {L:List A2} (u m v e:ByteArray) (h:recE K k L = 0):(textV K k L u m v e).data.toList = Sp.joinC 32 (wordsW K k L u m v e):=by
 unfold textV
 rw [if_pos h,list_bs]
theorem par_text {K:Int} {k:ByteArray} {L:List A2} (u m v e:ByteArray) (h:recE K k L = 0):parV (textV K k L u m v e) = ((K,k,L,(u,m,v,e)),0):=by
 unfold parV
 rw [text_list u m v e h,candP_text u m v e h]
 dsimp only
 rw [if_pos]
 rfl
end Rcd
namespace Rcd
open Att Kind Rec Atf Rw Flt Tlv
abbrev aT:ByteArray:=⟨#[65,69,83,45,49,50,56,32,51,48,51,49,51,50,51,51,51,52,51,53,51,54,51,55,51,56,51,57,54,49,54,50,54,51,54,52,54,53,54,54,32,53,61,54,49]⟩
abbrev aK:ByteArray:=⟨#[48,49,50,51,52,53,54,55,56,57,97,98,99,100,101,102]⟩
abbrev aS:ByteArray:=⟨#[65,69,83,45,49,50,56]⟩
abbrev aA:List A2:=[(5,⟨#[97]⟩)]
theorem rec_a:recE 1 aK aA = 0:=by decide +kernel
theorem text_a:textV 1 aK aA ⟨#[]⟩ ⟨#[]⟩ ⟨#[]⟩ ⟨#[]⟩ = aT:=by decide +kernel
theorem par_a:parV aT = ((1,aK,aA,noH),0):=by
 have h:=par_text ⟨#[]⟩ ⟨#[]⟩ ⟨#[]⟩ ⟨#[]⟩ rec_a
 rw [text_a] at h
 exact h
theorem par_s:parV aS = (noCd,5):=by
 unfold parV
 rw [show candP aS.data.toList = none by decide +kernel]
set_option maxHeartbeats 4000000 in
theorem awake_core (aT' aK' aS':ByteArray) (hT':aT' = aT) (hK':aK' = aK) (hS':aS' = aS) (w:World) (hT:Tab2 w) (c1:ParR 16 aT' (1,aK',aA,noH) 0) (c2:ParR 16 aS' noCd 5):Calls Tryz.prog 5 #[] w fun e w' => e = .returned (.bool true) /\ Since w w':=by
 subst hT' hK' hS'
 have HT:=lH hT
 clear hT
 have c3:=check_rec 1 aK ⟨#[]⟩ ⟨#[]⟩ ⟨#[]⟩ ⟨#[]⟩ aA (by decide) 0 rec_a.symm
 have c4:=text_mk 1 aK ⟨#[]⟩ ⟨#[]⟩ ⟨#[]⟩ ⟨#[]⟩ aA (by decide) ⟨by decide,by decide,by decide,by decide⟩
 rw [text_a] at c4
 have c5:=alike_t 1 aK ⟨#[]⟩ ⟨#[]⟩ ⟨#[]⟩ ⟨#[]⟩ aA
 have c6:=bare_mk 1 aK ⟨#[]⟩ ⟨#[]⟩ ⟨#[]⟩ ⟨#[]⟩ aA
 rw [show bareB ⟨#[]⟩ ⟨#[]⟩ ⟨#[]⟩ ⟨#[]⟩ = true by decide +kernel] at c6
 have c7:=same_t 1 aK ⟨#[]⟩ ⟨#[]⟩ ⟨#[]⟩ ⟨#[]⟩ aA
 have hz:(w.alloc (.cells #[.int .i64 5,.string ⟨#[97]⟩] 39)).heap.size = w.heap.size + 1:=by simp
 obtain ⟨C,hC⟩:∃ C:Array Value,C = #[.int .i64 1,.string aK,.slice (some ⟨w.heap.size,0,none⟩) 1 1,.string ⟨#[]⟩,.string ⟨#[]⟩,.string ⟨#[]⟩,.string ⟨#[]⟩]:=⟨_,rfl⟩
 have hr:Hid (HR w (w.heap.size + 1) C 26 ((w.alloc (.cells #[.int .i64 5,.string ⟨#[97]⟩] 39)).alloc (.cells C 26))):=lH ⟨by rw [<- hz]; exact heap_alloc_new _ _⟩
 have HS:=lH (((Since.refl w).alloc (.cells #[.int .i64 5,.string ⟨#[97]⟩] 39)).alloc (.cells C 26))
 have HA:=lH ((show AttsS (w.alloc (.cells #[.int .i64 5,.string ⟨#[97]⟩] 39)) (.slice (some ⟨w.heap.size,0,none⟩) 1 1) aA from SlR.lit w 2 1 (ac (5,⟨#[97]⟩)) rfl (by decide) #[.int .i64 5,.string ⟨#[97]⟩] rfl 39).since ((Since.refl _).alloc (.cells C 26)))
 rw [hC] at hr HS HA
 clear hC hz
 go_enter Tryz.func5,Tryz.ntmps5
 go_wp2_with fail
 refine (c1 _ (Kp.keep HT.out HS.out)).mono ?_
 rintro _ w1 ⟨y,rfl,hy,hq⟩
 obtain ⟨Ay,cy,rfl,-,-⟩:=hy.slice
 have HY:=lH hy
 replace hr:=lH (hr.out.step hq)
 replace HS:=lH (HS.out.step hq)
 replace HA:=lH (HA.out.since hq)
 clear hq hy
 dsimp only [noH]
 obtain ⟨Cp,hCp⟩:∃ C:Array Value,C = #[.int .i64 1,.string aK,.slice Ay 1 cy,.string ⟨#[]⟩,.string ⟨#[]⟩,.string ⟨#[]⟩,.string ⟨#[]⟩]:=⟨_,rfl⟩
 have hp:Hid (HR w1 w1.heap.size Cp 26 (w1.alloc (.cells Cp 26))):=lH ⟨heap_alloc_new w1 _⟩
 replace hr:=lH (hr_old hr.out (.cells Cp 26))
 replace HS:=lH (HS.out.alloc (.cells Cp 26))
 replace HA:=lH (HA.out.since ((Since.refl _).alloc (.cells Cp 26)))
 replace HY:=lH (HY.out.since ((Since.refl _).alloc (.cells Cp 26)))
 rw [hCp] at hp hr HS HA HY
 clear hCp
 go_wp2_with fail
 refine (c2 _ (Kp.keep HT.out HS.out)).mono ?_
 rintro _ w2 ⟨z,rfl,hz,hq⟩
 obtain ⟨Az,cz,rfl,-,-⟩:=hz.slice
 replace hr:=lH (hr.out.step hq)
 replace HS:=lH (HS.out.step hq)
 replace HA:=lH (HA.out.since hq)
 replace HY:=lH (HY.out.since hq)
 replace hp:=lH (hp.out.step hq)
 clear hq hz
 obtain ⟨g1,hg1⟩:∃ g,g = w1.heap.size:=⟨_,rfl⟩
 rw [<- hg1] at hp ⊢
 clear hg1
 dsimp only [noCd,noH]
 obtain ⟨Cq,hCq⟩:∃ C:Array Value,C = #[.int .i64 0,.string ⟨#[]⟩,.slice Az ([]:List A2).length cz,.string ⟨#[]⟩,.string ⟨#[]⟩,.string ⟨#[]⟩,.string ⟨#[]⟩]:=⟨_,rfl⟩
 replace hr:=lH (hr_old hr.out (.cells Cq 26))
 replace hp:=lH (hr_old hp.out (.cells Cq 26))
 replace HS:=lH (HS.out.alloc (.cells Cq 26))
 replace HA:=lH (HA.out.since ((Since.refl _).alloc (.cells Cq 26)))
 replace HY:=lH (HY.out.since ((Since.refl _).alloc (.cells Cq 26)))
 rw [hCq] at hp hr HS HA HY
 clear hCq
 dsimp only [noCd,List.length_nil] at hp hr HS HA HY ⊢
 have l0:=hr_cell hr.out 0 _ rfl
 have l1:=hr_cell hr.out 1 _ rfl
 have l2:=hr_cell hr.out 2 _ rfl
 have l3:=hr_cell hr.out 3 _ rfl
 have l4:=hr_cell hr.out 4 _ rfl
 have l5:=hr_cell hr.out 5 _ rfl
 have l6:=hr_cell hr.out 6 _ rfl
 have p0:=hr_cell hp.out 0 _ rfl
 have p1:=hr_cell hp.out 1 _ rfl
 have p2:=hr_cell hp.out 2 _ rfl
 have p3:=hr_cell hp.out 3 _ rfl
 have p4:=hr_cell hp.out 4 _ rfl
 have p5:=hr_cell hp.out 5 _ rfl
 have p6:=hr_cell hp.out 6 _ rfl
 replace HY:=lH (show AttsS _ (.slice Ay 1 cy) aA from HY.out)
 go_wp2_with fail
 refine c3.calls0 (Kp.keep HT.out HS.out) HA.out ?_
 intro w3 hq
 replace hr:=lH (hr.out.step hq)
 replace HS:=lH (HS.out.step hq)
 replace HA:=lH (HA.out.since hq)
 replace HY:=lH (HY.out.since hq)
 replace hp:=lH (hp.out.step hq)
 clear hq l0 l1 l2 l3 l4 l5 l6 p0 p1 p2 p3 p4 p5 p6
 have l0:=hr_cell hr.out 0 _ rfl
 have l1:=hr_cell hr.out 1 _ rfl
 have l2:=hr_cell hr.out 2 _ rfl
 have l3:=hr_cell hr.out 3 _ rfl
 have l4:=hr_cell hr.out 4 _ rfl
 have l5:=hr_cell hr.out 5 _ rfl
 have l6:=hr_cell hr.out 6 _ rfl
 have p0:=hr_cell hp.out 0 _ rfl
 have p1:=hr_cell hp.out 1 _ rfl
 have p2:=hr_cell hp.out 2 _ rfl
 have p3:=hr_cell hp.out 3 _ rfl
 have p4:=hr_cell hp.out 4 _ rfl
 have p5:=hr_cell hp.out 5 _ rfl
 have p6:=hr_cell hp.out 6 _ rfl
 go_wp2_with fail
 refine c4.calls0 (Kp.keep HT.out HS.out) HA.out ?_
 intro w4 hq
 replace hr:=lH (hr.out.step hq)
 replace HS:=lH (HS.out.step hq)
 replace HA:=lH (HA.out.since hq)
 replace HY:=lH (HY.out.since hq)
 replace hp:=lH (hp.out.step hq)
 clear hq l0 l1 l2 l3 l4 l5 l6 p0 p1 p2 p3 p4 p5 p6
 have l0:=hr_cell hr.out 0 _ rfl
 have l1:=hr_cell hr.out 1 _ rfl
 have l2:=hr_cell hr.out 2 _ rfl
 have l3:=hr_cell hr.out 3 _ rfl
 have l4:=hr_cell hr.out 4 _ rfl
 have l5:=hr_cell hr.out 5 _ rfl
 have l6:=hr_cell hr.out 6 _ rfl
 have p0:=hr_cell hp.out 0 _ rfl
 have p1:=hr_cell hp.out 1 _ rfl
 have p2:=hr_cell hp.out 2 _ rfl
 have p3:=hr_cell hp.out 3 _ rfl
 have p4:=hr_cell hp.out 4 _ rfl
 have p5:=hr_cell hp.out 5 _ rfl
 have p6:=hr_cell hp.out 6 _ rfl
 go_wp2_with fail
 refine c5.calls0 HY.out HA.out ?_
 intro w5 hq
 replace hr:=lH (hr.out.step hq)
 replace HS:=lH (HS.out.step hq)
 replace HA:=lH (HA.out.since hq)
 replace HY:=lH (HY.out.since hq)
 replace hp:=lH (hp.out.step hq)
 clear hq l0 l1 l2 l3 l4 l5 l6 p0 p1 p2 p3 p4 p5 p6
 have l0:=hr_cell hr.out 0 _ rfl
 have l1:=hr_cell hr.out 1 _ rfl
 have l2:=hr_cell hr.out 2 _ rfl
 have l3:=hr_cell hr.out 3 _ rfl
 have l4:=hr_cell hr.out 4 _ rfl
 have l5:=hr_cell hr.out 5 _ rfl
 have l6:=hr_cell hr.out 6 _ rfl
 have p0:=hr_cell hp.out 0 _ rfl
 have p1:=hr_cell hp.out 1 _ rfl
 have p2:=hr_cell hp.out 2 _ rfl
 have p3:=hr_cell hp.out 3 _ rfl
 have p4:=hr_cell hp.out 4 _ rfl
 have p5:=hr_cell hp.out 5 _ rfl
 have p6:=hr_cell hp.out 6 _ rfl
 go_wp2_with fail
 refine c6.calls0 (Kp.keep HT.out HS.out) HA.out ?_
 intro w6 hq
 replace hr:=lH (hr.out.step hq)
 replace HS:=lH (HS.out.step hq)
 replace HA:=lH (HA.out.since hq)
 replace HY:=lH (HY.out.since hq)
 replace hp:=lH (hp.out.step hq)
 clear hq l0 l1 l2 l3 l4 l5 l6 p0 p1 p2 p3 p4 p5 p6
 have l0:=hr_cell hr.out 0 _ rfl
 have l1:=hr_cell hr.out 1 _ rfl
 have l2:=hr_cell hr.out 2 _ rfl
 have l3:=hr_cell hr.out 3 _ rfl
 have l4:=hr_cell hr.out 4 _ rfl
 have l5:=hr_cell hr.out 5 _ rfl
 have l6:=hr_cell hr.out 6 _ rfl
 have p0:=hr_cell hp.out 0 _ rfl
 have p1:=hr_cell hp.out 1 _ rfl
 have p2:=hr_cell hp.out 2 _ rfl
 have p3:=hr_cell hp.out 3 _ rfl
 have p4:=hr_cell hp.out 4 _ rfl
 have p5:=hr_cell hp.out 5 _ rfl
 have p6:=hr_cell hp.out 6 _ rfl
 go_wp2_with fail
 refine c7.calls0 HA.out HY.out ?_
 intro w7 hq
 replace hr:=lH (hr.out.step hq)
 replace HS:=lH (HS.out.step hq)
 replace HA:=lH (HA.out.since hq)
 replace HY:=lH (HY.out.since hq)
 replace hp:=lH (hp.out.step hq)
 clear hq l0 l1 l2 l3 l4 l5 l6 p0 p1 p2 p3 p4 p5 p6
 have l0:=hr_cell hr.out 0 _ rfl
 have l1:=hr_cell hr.out 1 _ rfl
 have l2:=hr_cell hr.out 2 _ rfl
 have l3:=hr_cell hr.out 3 _ rfl
 have l4:=hr_cell hr.out 4 _ rfl
 have l5:=hr_cell hr.out 5 _ rfl
 have l6:=hr_cell hr.out 6 _ rfl
 have p0:=hr_cell hp.out 0 _ rfl
 have p1:=hr_cell hp.out 1 _ rfl
 have p2:=hr_cell hp.out 2 _ rfl
 have p3:=hr_cell hp.out 3 _ rfl
 have p4:=hr_cell hp.out 4 _ rfl
 have p5:=hr_cell hp.out 5 _ rfl
 have p6:=hr_cell hp.out 6 _ rfl
 go_wp2_with fail
 go_ret
 exact ⟨rfl,HS.out⟩
def AwK (f:Nat):Prop:=∀ w,Tab2 w -> Calls Tryz.prog f #[] w fun e w' => e = .returned (.bool true) /\ Since w w'
theorem AwK.calls0 {f:Nat} (h:AwK f) {w:World} (hT:Tab2 w) {R:Ending -> World -> Prop} (k:∀ w',Since w w' -> R (.returned (.bool true)) w'):Calls Tryz.prog f #[] w R :=
 (h w hT).mono fun _ _ ⟨he,hb⟩ => by subst he; exact k _ hb
theorem awake27:AwK 5:=by
 intro w hT
 have h1:=parse_k aT (by decide)
 have h2:=parse_k aS (by decide)
 rw [par_a] at h1
 rw [par_s] at h2
 exact awake_core aT aK aS rfl rfl rfl w hT h1 h2
end Rcd
namespace Rcd
open Att Kind Rec Atf Rw Flt Tlv Atm
def chgV (K:Int) (k:ByteArray) (L:List A2) (H:Hd) (S:List A2 × Int):Cd × Int:=if recE K k L ≠ 0 then (noCd,recE K k L) else if S.2 ≠ 0 then (noCd,S.2) else ((K,k,S.1,H),0)
def ChgR (f:Nat) (L:List A2) (args:Value -> Array Value) (R:Cd × Int):Prop:=∀ w x,Tab2 w -> AttsS w x L -> Calls Tryz.prog f (args x) w fun z w' => ∃ y,z = .returned (.tuple #[rv R.1.1 R.1.2.1 R.1.2.2.2.1 R.1.2.2.2.2.1 R.1.2.2.2.2.2.1 R.1.2.2.2.2.2.2 y,.int .i64 R.2]) /\ AttsS w' y R.1.2.2.1 /\ Since w w'
theorem cell_row {W:World} {g i:Nat} {D:Array Value} {t:TypeId} (h:W.heap[g]? = some (.cells D t (0,0))):W.cell? ⟨g,i,none⟩ = D[i]? := by
 unfold World.cell?
 rw [h]
 simp
theorem atts_cell {w W:World} {g:Nat} {C:Array Value} {t:TypeId} {y:Value} {M:List A2} (h:AttsS W y M) (hr:HR w g C t W) (i:Nat) (A:Option Addr) (n c:Nat) (hi:C[i]? = some (.slice A n c)) (x:Value):AttsS (W.setCell ⟨g,i,none⟩ x) y M:=by
 obtain ⟨hl,A9,c9,rfl,h1,h2,h3⟩:=h
 refine ⟨hl,A9,c9,rfl,h1,h2, ?_⟩
 rcases h3 with h3 | ⟨b,o,rfl,hlt,hc⟩
 · exact Or.inl h3
 rw [Go.setCell_eq_setRow W g i C t _ x hr.row]
 have h5:b < (W.setRow g (C.setIfInBounds i x)).heap.size:=by
   by_cases hb:b = g
   · subst hb
     have h6:=setRow_heap W b C (C.setIfInBounds i x) t _ hr.row
     exact (Array.getElem?_eq_some_iff.1 h6).1
   · have h5:=setRow_other W g b (C.setIfInBounds i x) hb
     have h6:=Array.getElem?_eq_getElem hlt
     rw [<- h5] at h6
     exact (Array.getElem?_eq_some_iff.1 h6).1
 refine Or.inr ⟨b,o,rfl,h5,fun j u hu => ?_⟩
 have h6:=hc j u hu
 by_cases hb:b = g
 · subst hb
   have h7:C[o + j]? = some u:=by
     unfold World.cell? at h6
     rw [hr.row] at h6
     simpa using h6
   have hne:o + j ≠ i:=fun e => by
     rw [e,hi] at h7
     cases h7
     have h8:=List.mem_of_getElem? hu
     obtain ⟨a,-,ha⟩:=List.mem_flatMap.1 h8
     simp [ac] at ha
   rw [cell_row (setRow_heap W b C (C.setIfInBounds i x) t _ hr.row),Array.getElem?_setIfInBounds,if_neg (fun e => hne e.symm)]
   exact h7
 · exact (cell_setRow hb).trans h6
theorem atts_far {w W:World} {g:Nat} {t:TypeId} {y:Value} {M:List A2} (h:AttsS W y M) (hM:∀ a ∈ M,1 <= a.1) (hr:HR w g Z7 t W) (new:Array Value):AttsS (W.setRow g new) y M:=by
 cases M with
 | nil =>
   obtain ⟨hl,A9,c9,rfl,h1,h2,h3⟩:=h
   exact ⟨hl,A9,c9,rfl,h1,h2,Or.inl rfl⟩
 | cons a M =>
   refine slr_row h (fun e => ?_) new
   obtain ⟨b,o,c,rfl,-,-,-,f4⟩:=AttsS.form h (by show 0 < _ + 1; omega)
   cases e
   have h1:=(f4 0 a rfl).1
   unfold World.cell? at h1
   rw [hr.row] at h1
   have h2:Z7[o + 0 * 2]? = some (.int .i64 a.1):=by simpa using h1
   have h3:=hM a (List.mem_cons_self ..)
   match o,h2 with
   | 0,h2 =>
     have h4:Value.int .i64 0 = .int .i64 a.1:=Option.some.inj h2
     injection h4 with _ h5
     omega
   | 1,h2 => cases h2
   | 2,h2 => cases h2
   | 3,h2 => cases h2
   | 4,h2 => cases h2
   | 5,h2 => cases h2
   | 6,h2 => cases h2
   | o + 7,h2 => rw [show o + 7 + 0 * 2 = o + 7 by omega] at h2; simp [Z7] at h2
set_option maxHeartbeats 16000000 in
theorem rwith_c (K:Int) (k u m v e:ByteArray) (L:List A2) (c1:RdR 24 L (fun x => #[rv K k u m v e x]) (.int .i64 (recE K k L))) (t:Int) (y:ByteArray) (S:List A2 × Int) (hS:S.2 = 0 -> ∀ a ∈ S.1,1 <= a.1) (c2:AtR 25 L (fun x => #[x,.int .i64 t,.string y]) S):∀ w x,Tab2 w -> True -> AttsS w x L -> Calls Tryz.prog 8 #[rv K k u m v e x,.int .i64 t,.string y] w fun z w' => ∃ y,z = .returned (.tuple #[rv (chgV K k L (u,m,v,e) S).1.1 (chgV K k L (u,m,v,e) S).1.2.1 (chgV K k L (u,m,v,e) S).1.2.2.2.1 (chgV K k L (u,m,v,e) S).1.2.2.2.2.1 (chgV K k L (u,m,v,e) S).1.2.2.2.2.2.1 (chgV K k L (u,m,v,e) S).1.2.2.2.2.2.2 y,.int .i64 (chgV K k L (u,m,v,e) S).2]) /\ AttsS w' y (chgV K k L (u,m,v,e) S).1.2.2.1 /\ Since w w':=by
 intro w x hT hK0 hx
 obtain ⟨A,q,rfl,-,-⟩:=hx.slice
 obtain ⟨E,hE⟩:∃ E,E = recE K k L:=⟨_,rfl⟩
 rw [<- hE] at c1
 have HE:=lH hE
 obtain ⟨n,hn⟩:∃ n,n = L.length:=⟨_,rfl⟩
 rw [<- hn] at hx ⊢
 have HN:=lH hn
 have hz:(w.alloc (.cells #[.int .i64 K,.string k,.slice A n q,.string u,.string m,.string v,.string e] 26)).heap.size = w.heap.size + 1:=by simp
 have hb:Hid (HR w w.heap.size #[.int .i64 K,.string k,.slice A n q,.string u,.string m,.string v,.string e] 26 ((w.alloc (.cells #[.int .i64 K,.string k,.slice A n q,.string u,.string m,.string v,.string e] 26)).alloc (.cells Z7 26))):=lH (hr_old ⟨heap_alloc_new w _⟩ _)
 have hr:Hid (HR w (w.heap.size + 1) Z7 26 ((w.alloc (.cells #[.int .i64 K,.string k,.slice A n q,.string u,.string m,.string v,.string e] 26)).alloc (.cells Z7 26))):=lH ⟨by rw [<- hz]; exact heap_alloc_new _ _⟩
 have HS:=lH (((Since.refl w).alloc (.cells #[.int .i64 K,.string k,.slice A n q,.string u,.string m,.string v,.string e] 26)).alloc (.cells Z7 26))
 have HX:=lH (hx.since HS.out)
 have HT:=lH (Tab2.since hT HS.out)
 skip
 have m0:=hr_cell hb.out 0 _ rfl
 have m1:=hr_cell hb.out 1 _ rfl
 have m2:=hr_cell hb.out 2 _ rfl
 have m3:=hr_cell hb.out 3 _ rfl
 have m4:=hr_cell hb.out 4 _ rfl
 have m5:=hr_cell hb.out 5 _ rfl
 have m6:=hr_cell hb.out 6 _ rfl
 have HC2:=lH c2
 have HSV:=lH hS
 unfold Z7 at hr HS HX HT hb m0 m1 m2 m3 m4 m5 m6
 clear hx hT hK0 hz hE hn c2 hS
 go_enter Tryz.func8,Tryz.ntmps8
 go_wp2_with fail
 refine c1.calls0 HT.out HX.out ?_
 intro w1 h1
 replace hb:=lH (hb.out.step h1)
 replace hr:=lH (hr.out.step h1)
 replace HX:=lH (HX.out.since h1)
 replace HT:=lH (Tab2.since HT.out h1)
 replace HS:=lH (HS.out.step h1)
 skip
 clear h1 m0 m1 m2 m3 m4 m5 m6
 by_cases h0:E = 0
 · have q0:(E != 0) = false:=by rw [h0]; rfl
   have m2:=hr_cell hb.out 2 _ rfl
   have HE0:Hid (recE K k L = 0):=lH (HE.out.symm.trans h0)
   clear h0
   go_wp2_with fail
   refine (HC2.out _ _ HX.out).mono ?_
   rintro _ w3 ⟨y3,rfl,hy,h3⟩
   replace hb:=lH (hb.out.step h3)
   replace hr:=lH (hr.out.step h3)
   replace HX:=lH (HX.out.since h3)
   replace HT:=lH (Tab2.since HT.out h3)
   replace HS:=lH (HS.out.step h3)
   clear h3 m2
   obtain ⟨Ay,cy,rfl,-,-⟩:=hy.slice
   obtain ⟨ny,hny⟩:∃ n,n = S.1.length:=⟨_,rfl⟩
   rw [<- hny] at hy ⊢
   have HY:=lH hy
   obtain ⟨S2,hS2⟩:∃ s,s = S.2:=⟨_,rfl⟩
   have HS2:=lH hS2
   rw [<- hS2]
   clear hny hy hS2
   by_cases hs:S2 = 0
   · have q1:(S2 != 0) = false:=by rw [hs]; rfl
     have HRV:Hid (chgV K k L (u,m,v,e) S = ((K,k,S.1,(u,m,v,e)),0)):=lH (by unfold chgV; rw [if_neg (fun h => h HE0.out),if_neg (fun h => h (HS2.out.symm.trans hs))])
     have HM1:=lH (HSV.out (HS2.out.symm.trans hs))
     have k2:=hr_cell hb.out 2 _ rfl
     have f2:=hr_free hb.out 2
     have HY2:=lH (atts_cell HY.out hb.out 2 A n q rfl (.slice Ay ny cy))
     have hb2:Hid (HR w w.heap.size #[.int .i64 K,.string k,.slice Ay ny cy,.string u,.string m,.string v,.string e] 26 (w3.setCell ⟨w.heap.size,2,none⟩ (.slice Ay ny cy))):=lH (hr_as (hr_set hb.out 2 (.slice Ay ny cy)) (by simp))
     have hr2:=lH (hr_low hr.out hb.out (show w.heap.size + 1 ≠ w.heap.size by omega) 2 (.slice Ay ny cy))
     have HS3:=lH (since_cell HS.out (Nat.le_refl _) 2 (.slice Ay ny cy))
     have p0:=hr_cell hb2.out 0 _ rfl
     have p1:=hr_cell hb2.out 1 _ rfl
     have p2:=hr_cell hb2.out 2 _ rfl
     have p3:=hr_cell hb2.out 3 _ rfl
     have p4:=hr_cell hb2.out 4 _ rfl
     have p5:=hr_cell hb2.out 5 _ rfl
     have p6:=hr_cell hb2.out 6 _ rfl
     clear hb hr HS HX HT HY hs hb2
     go_wp2_with (refine RwL.at_store (ty:=26) rfl ?_; refine wpList_store_row rfl 26 _ _ rfl (w.heap.size + 1) #[.int .i64 K,.string k,.slice Ay ny cy,.string u,.string m,.string v,.string e] (by rfl) (by rfl) _ _ hr2.out.row (r7_info _ _ _ _ _ _ _) rfl (r7_one _ _ _ _ _ _ _ _ _) ?_)
     rw [HRV.out]
     exact bodyPost_ret (v:=.tuple #[.agg #[.int .i64 K,.string k,.slice Ay ny cy,.string u,.string m,.string v,.string e],.int .i64 0]) (results_cell_tmp2 Tryz.results8 _ _ _ _ _ _ _ _ rfl rfl (setRow_heap _ _ _ _ _ _ hr2.out.row) Tryz.underlying26 rfl (r7_info _ _ _ _ _ _ _)) rfl ⟨_,rfl,atts_far HY2.out HM1.out hr2.out _,below_setRow HS3.out (Nat.le_add_right _ _) _⟩
   · have q1:(S2 != 0) = true:=bne_iff_ne.2 hs
     have HRV:Hid (chgV K k L (u,m,v,e) S = (noCd,S2)):=lH (by unfold chgV; rw [if_neg (fun h => h HE0.out),if_pos (fun h => hs (HS2.out.trans h)),HS2.out])
     clear hs HY
     go_wp2_with (refine RwL.at_store (ty:=26) rfl ?_; refine wpList_store_row rfl 26 _ _ rfl (w.heap.size + 1) Z7 (by rfl) (by rfl) _ _ hr.out.row (r7_info _ _ _ _ _ _ _) rfl (r7_one _ _ _ _ _ _ _ _ _) ?_)
     rw [HRV.out]
     exact bodyPost_ret (v:=.tuple #[.agg Z7,.int .i64 S2]) (results_cell_tmp2 Tryz.results8 _ _ _ _ _ _ _ _ rfl rfl (setRow_heap _ _ _ _ _ _ hr.out.row) Tryz.underlying26 rfl (r7_info _ _ _ _ _ _ _)) rfl ⟨_,rfl,AttsS.nil _,below_setRow HS.out (Nat.le_add_right _ _) _⟩
 · have q0:(E != 0) = true:=bne_iff_ne.2 h0
   have HRV:Hid (chgV K k L (u,m,v,e) S = (noCd,E)):=lH (by unfold chgV; rw [if_pos (fun h => h0 (HE.out.trans h)),HE.out])
   clear h0
   go_wp2_with (refine RwL.at_store (ty:=26) rfl ?_; refine wpList_store_row rfl 26 _ _ rfl (w.heap.size + 1) Z7 (by rfl) (by rfl) _ _ hr.out.row (r7_info _ _ _ _ _ _ _) rfl (r7_one _ _ _ _ _ _ _ _ _) ?_)
   rw [HRV.out]
   exact bodyPost_ret (v:=.tuple #[.agg Z7,.int .i64 E]) (results_cell_tmp2 Tryz.results8 _ _ _ _ _ _ _ _ rfl rfl (setRow_heap _ _ _ _ _ _ hr.out.row) Tryz.underlying26 rfl (r7_info _ _ _ _ _ _ _)) rfl ⟨_,rfl,AttsS.nil _,below_setRow HS.out (Nat.le_add_right _ _) _⟩
set_option maxHeartbeats 16000000 in
theorem rwithout_c (K:Int) (k u m v e:ByteArray) (L:List A2) (c1:RdR 24 L (fun x => #[rv K k u m v e x]) (.int .i64 (recE K k L))) (t:Int) (S:List A2 × Int) (hS:S.2 = 0 -> ∀ a ∈ S.1,1 <= a.1) (c2:AtR 28 L (fun x => #[x,.int .i64 t]) S):∀ w x,Tab2 w -> True -> AttsS w x L -> Calls Tryz.prog 10 #[rv K k u m v e x,.int .i64 t] w fun z w' => ∃ y,z = .returned (.tuple #[rv (chgV K k L (u,m,v,e) S).1.1 (chgV K k L (u,m,v,e) S).1.2.1 (chgV K k L (u,m,v,e) S).1.2.2.2.1 (chgV K k L (u,m,v,e) S).1.2.2.2.2.1 (chgV K k L (u,m,v,e) S).1.2.2.2.2.2.1 (chgV K k L (u,m,v,e) S).1.2.2.2.2.2.2 y,.int .i64 (chgV K k L (u,m,v,e) S).2]) /\ AttsS w' y (chgV K k L (u,m,v,e) S).1.2.2.1 /\ Since w w':=by
 intro w x hT hK0 hx
 obtain ⟨A,q,rfl,-,-⟩:=hx.slice
 obtain ⟨E,hE⟩:∃ E,E = recE K k L:=⟨_,rfl⟩
 rw [<- hE] at c1
 have HE:=lH hE
 obtain ⟨n,hn⟩:∃ n,n = L.length:=⟨_,rfl⟩
 rw [<- hn] at hx ⊢
 have HN:=lH hn
 have hz:(w.alloc (.cells #[.int .i64 K,.string k,.slice A n q,.string u,.string m,.string v,.string e] 26)).heap.size = w.heap.size + 1:=by simp
 have hb:Hid (HR w w.heap.size #[.int .i64 K,.string k,.slice A n q,.string u,.string m,.string v,.string e] 26 ((w.alloc (.cells #[.int .i64 K,.string k,.slice A n q,.string u,.string m,.string v,.string e] 26)).alloc (.cells Z7 26))):=lH (hr_old ⟨heap_alloc_new w _⟩ _)
 have hr:Hid (HR w (w.heap.size + 1) Z7 26 ((w.alloc (.cells #[.int .i64 K,.string k,.slice A n q,.string u,.string m,.string v,.string e] 26)).alloc (.cells Z7 26))):=lH ⟨by rw [<- hz]; exact heap_alloc_new _ _⟩
 have HS:=lH (((Since.refl w).alloc (.cells #[.int .i64 K,.string k,.slice A n q,.string u,.string m,.string v,.string e] 26)).alloc (.cells Z7 26))
 have HX:=lH (hx.since HS.out)
 have HT:=lH (Tab2.since hT HS.out)
 skip
 have m0:=hr_cell hb.out 0 _ rfl
 have m1:=hr_cell hb.out 1 _ rfl
 have m2:=hr_cell hb.out 2 _ rfl
 have m3:=hr_cell hb.out 3 _ rfl
 have m4:=hr_cell hb.out 4 _ rfl
 have m5:=hr_cell hb.out 5 _ rfl
 have m6:=hr_cell hb.out 6 _ rfl
 have HC2:=lH c2
 have HSV:=lH hS
 unfold Z7 at hr HS HX HT hb m0 m1 m2 m3 m4 m5 m6
 clear hx hT hK0 hz hE hn c2 hS
 go_enter Tryz.func10,Tryz.ntmps10
 go_wp2_with fail
 refine c1.calls0 HT.out HX.out ?_
 intro w1 h1
 replace hb:=lH (hb.out.step h1)
 replace hr:=lH (hr.out.step h1)
 replace HX:=lH (HX.out.since h1)
 replace HT:=lH (Tab2.since HT.out h1)
 replace HS:=lH (HS.out.step h1)
 skip
 clear h1 m0 m1 m2 m3 m4 m5 m6
 by_cases h0:E = 0
 · have q0:(E != 0) = false:=by rw [h0]; rfl
   have m2:=hr_cell hb.out 2 _ rfl
   have HE0:Hid (recE K k L = 0):=lH (HE.out.symm.trans h0)
   clear h0
   go_wp2_with fail
   refine (HC2.out _ _ HX.out).mono ?_
   rintro _ w3 ⟨y3,rfl,hy,h3⟩
   replace hb:=lH (hb.out.step h3)
   replace hr:=lH (hr.out.step h3)
   replace HX:=lH (HX.out.since h3)
   replace HT:=lH (Tab2.since HT.out h3)
   replace HS:=lH (HS.out.step h3)
   clear h3 m2
   obtain ⟨Ay,cy,rfl,-,-⟩:=hy.slice
   obtain ⟨ny,hny⟩:∃ n,n = S.1.length:=⟨_,rfl⟩
   rw [<- hny] at hy ⊢
   have HY:=lH hy
   obtain ⟨S2,hS2⟩:∃ s,s = S.2:=⟨_,rfl⟩
   have HS2:=lH hS2
   rw [<- hS2]
   clear hny hy hS2
   by_cases hs:S2 = 0
   · have q1:(S2 != 0) = false:=by rw [hs]; rfl
     have HRV:Hid (chgV K k L (u,m,v,e) S = ((K,k,S.1,(u,m,v,e)),0)):=lH (by unfold chgV; rw [if_neg (fun h => h HE0.out),if_neg (fun h => h (HS2.out.symm.trans hs))])
     have HM1:=lH (HSV.out (HS2.out.symm.trans hs))
     have k2:=hr_cell hb.out 2 _ rfl
     have f2:=hr_free hb.out 2
     have HY2:=lH (atts_cell HY.out hb.out 2 A n q rfl (.slice Ay ny cy))
     have hb2:Hid (HR w w.heap.size #[.int .i64 K,.string k,.slice Ay ny cy,.string u,.string m,.string v,.string e] 26 (w3.setCell ⟨w.heap.size,2,none⟩ (.slice Ay ny cy))):=lH (hr_as (hr_set hb.out 2 (.slice Ay ny cy)) (by simp))
     have hr2:=lH (hr_low hr.out hb.out (show w.heap.size + 1 ≠ w.heap.size by omega) 2 (.slice Ay ny cy))
     have HS3:=lH (since_cell HS.out (Nat.le_refl _) 2 (.slice Ay ny cy))
     have p0:=hr_cell hb2.out 0 _ rfl
     have p1:=hr_cell hb2.out 1 _ rfl
     have p2:=hr_cell hb2.out 2 _ rfl
     have p3:=hr_cell hb2.out 3 _ rfl
     have p4:=hr_cell hb2.out 4 _ rfl
     have p5:=hr_cell hb2.out 5 _ rfl
     have p6:=hr_cell hb2.out 6 _ rfl
     clear hb hr HS HX HT HY hs hb2
     go_wp2_with (refine RwL.at_store (ty:=26) rfl ?_; refine wpList_store_row rfl 26 _ _ rfl (w.heap.size + 1) #[.int .i64 K,.string k,.slice Ay ny cy,.string u,.string m,.string v,.string e] (by rfl) (by rfl) _ _ hr2.out.row (r7_info _ _ _ _ _ _ _) rfl (r7_one _ _ _ _ _ _ _ _ _) ?_)
     rw [HRV.out]
     exact bodyPost_ret (v:=.tuple #[.agg #[.int .i64 K,.string k,.slice Ay ny cy,.string u,.string m,.string v,.string e],.int .i64 0]) (results_cell_tmp2 Tryz.results10 _ _ _ _ _ _ _ _ rfl rfl (setRow_heap _ _ _ _ _ _ hr2.out.row) Tryz.underlying26 rfl (r7_info _ _ _ _ _ _ _)) rfl ⟨_,rfl,atts_far HY2.out HM1.out hr2.out _,below_setRow HS3.out (Nat.le_add_right _ _) _⟩
   · have q1:(S2 != 0) = true:=bne_iff_ne.2 hs
     have HRV:Hid (chgV K k L (u,m,v,e) S = (noCd,S2)):=lH (by unfold chgV; rw [if_neg (fun h => h HE0.out),if_pos (fun h => hs (HS2.out.trans h)),HS2.out])
     clear hs HY
     go_wp2_with (refine RwL.at_store (ty:=26) rfl ?_; refine wpList_store_row rfl 26 _ _ rfl (w.heap.size + 1) Z7 (by rfl) (by rfl) _ _ hr.out.row (r7_info _ _ _ _ _ _ _) rfl (r7_one _ _ _ _ _ _ _ _ _) ?_)
     rw [HRV.out]
     exact bodyPost_ret (v:=.tuple #[.agg Z7,.int .i64 S2]) (results_cell_tmp2 Tryz.results10 _ _ _ _ _ _ _ _ rfl rfl (setRow_heap _ _ _ _ _ _ hr.out.row) Tryz.underlying26 rfl (r7_info _ _ _ _ _ _ _)) rfl ⟨_,rfl,AttsS.nil _,below_setRow HS.out (Nat.le_add_right _ _) _⟩
 · have q0:(E != 0) = true:=bne_iff_ne.2 h0
   have HRV:Hid (chgV K k L (u,m,v,e) S = (noCd,E)):=lH (by unfold chgV; rw [if_pos (fun h => h0 (HE.out.trans h)),HE.out])
   clear h0
   go_wp2_with (refine RwL.at_store (ty:=26) rfl ?_; refine wpList_store_row rfl 26 _ _ rfl (w.heap.size + 1) Z7 (by rfl) (by rfl) _ _ hr.out.row (r7_info _ _ _ _ _ _ _) rfl (r7_one _ _ _ _ _ _ _ _ _) ?_)
   rw [HRV.out]
   exact bodyPost_ret (v:=.tuple #[.agg Z7,.int .i64 E]) (results_cell_tmp2 Tryz.results10 _ _ _ _ _ _ _ _ rfl rfl (setRow_heap _ _ _ _ _ _ hr.out.row) Tryz.underlying26 rfl (r7_info _ _ _ _ _ _ _)) rfl ⟨_,rfl,AttsS.nil _,below_setRow HS.out (Nat.le_add_right _ _) _⟩
def KSet (g1 g2:Nat) (t:Int) (y:ByteArray) (w:World):Prop:=w.cell? ⟨g1,0,none⟩ = some (.int .i64 t) /\ w.cell? ⟨g2,0,none⟩ = some (.string y)
theorem KSet.since {g1 g2:Nat} {t:Int} {y:ByteArray} {W W':World} (h:KSet g1 g2 t y W) (hs:Since W W'):KSet g1 g2 t y W':=⟨(Below.cell hs (p:=⟨g1,0,none⟩) (lt_cell h.1)).trans h.1,(Below.cell hs (p:=⟨g2,0,none⟩) (lt_cell h.2)).trans h.2⟩
def KDrp (g1:Nat) (t:Int) (w:World):Prop:=w.cell? ⟨g1,0,none⟩ = some (.int .i64 t)
theorem KDrp.since {g1:Nat} {t:Int} {W W':World} (h:KDrp g1 t W) (hs:Since W W'):KDrp g1 t W':=(Below.cell hs (p:=⟨g1,0,none⟩) (lt_cell h)).trans h
theorem setclo (t:Int) (y:ByteArray) (L:List A2) (S:List A2 × Int) (c1:AtR 23 L (fun x => #[x,.int .i64 t,.string y]) S) (g1 g2:Nat):∀ w x,KSet g1 g2 t y w -> AttsS w x L -> Calls Tryz.prog 22 #[x,.pointer (some ⟨g1,0,none⟩),.pointer (some ⟨g2,0,none⟩)] w fun e w' => ∃ v,e = .returned (.tuple #[v,.int .i64 S.2]) /\ AttsS w' v S.1 /\ Since w w':=by
 intro w x hK hx
 obtain ⟨m0,m1⟩:=hK
 have HX:=lH hx
 clear hx
 go_enter Tryz.func22,Tryz.ntmps22
 go_wp2_with fail
 refine (c1 _ _ HX.out).mono ?_
 rintro _ w3 ⟨v,rfl,hy,h3⟩
 have HY:=lH hy
 have HS:=lH h3
 clear hy h3 m0 m1
 go_wp2_with fail
 go_ret2
 exact ⟨_,rfl,HY.out,HS.out⟩
theorem drpclo (t:Int) (L:List A2) (S:List A2 × Int) (c1:AtR 27 L (fun x => #[x,.int .i64 t]) S) (g1:Nat):∀ w x,KDrp g1 t w -> AttsS w x L -> Calls Tryz.prog 26 #[x,.pointer (some ⟨g1,0,none⟩)] w fun e w' => ∃ v,e = .returned (.tuple #[v,.int .i64 S.2]) /\ AttsS w' v S.1 /\ Since w w':=by
 intro w x hK hx
 have m0:w.cell? ⟨g1,0,none⟩ = some (.int .i64 t):=hK
 have HX:=lH hx
 clear hx hK
 go_enter Tryz.func26,Tryz.ntmps26
 go_wp2_with fail
 refine (c1 _ _ HX.out).mono ?_
 rintro _ w3 ⟨v,rfl,hy,h3⟩
 have HY:=lH hy
 have HS:=lH h3
 clear hy h3 m0
 go_wp2_with fail
 go_ret2
 exact ⟨_,rfl,HY.out,HS.out⟩
set_option maxHeartbeats 16000000 in
theorem chset_c (K:Int) (k u m v e:ByteArray) (L:List A2) (c1:RdR 17 L (fun x => #[rv K k u m v e x]) (.int .i64 (recE K k L))) (t:Int) (y:ByteArray) (g1 g2:Nat) (S:List A2 × Int) (hS:S.2 = 0 -> ∀ a ∈ S.1,1 <= a.1) (c2:∀ w x,KSet g1 g2 t y w -> AttsS w x L -> Calls Tryz.prog 22 #[x,.pointer (some ⟨g1,0,none⟩),.pointer (some ⟨g2,0,none⟩)] w fun e w' => ∃ v,e = .returned (.tuple #[v,.int .i64 S.2]) /\ AttsS w' v S.1 /\ Since w w'):∀ w x,Tab2 w -> KSet g1 g2 t y w -> AttsS w x L -> Calls Tryz.prog 21 #[rv K k u m v e x,.func (.func 22) #[] #[.pointer (some ⟨g1,0,none⟩),.pointer (some ⟨g2,0,none⟩)]] w fun z w' => ∃ y,z = .returned (.tuple #[rv (chgV K k L (u,m,v,e) S).1.1 (chgV K k L (u,m,v,e) S).1.2.1 (chgV K k L (u,m,v,e) S).1.2.2.2.1 (chgV K k L (u,m,v,e) S).1.2.2.2.2.1 (chgV K k L (u,m,v,e) S).1.2.2.2.2.2.1 (chgV K k L (u,m,v,e) S).1.2.2.2.2.2.2 y,.int .i64 (chgV K k L (u,m,v,e) S).2]) /\ AttsS w' y (chgV K k L (u,m,v,e) S).1.2.2.1 /\ Since w w':=by
 intro w x hT hK0 hx
 obtain ⟨A,q,rfl,-,-⟩:=hx.slice
 obtain ⟨E,hE⟩:∃ E,E = recE K k L:=⟨_,rfl⟩
 rw [<- hE] at c1
 have HE:=lH hE
 obtain ⟨n,hn⟩:∃ n,n = L.length:=⟨_,rfl⟩
 rw [<- hn] at hx ⊢
 have HN:=lH hn
 have hz:(w.alloc (.cells #[.int .i64 K,.string k,.slice A n q,.string u,.string m,.string v,.string e] 26)).heap.size = w.heap.size + 1:=by simp
 have hb:Hid (HR w w.heap.size #[.int .i64 K,.string k,.slice A n q,.string u,.string m,.string v,.string e] 26 ((w.alloc (.cells #[.int .i64 K,.string k,.slice A n q,.string u,.string m,.string v,.string e] 26)).alloc (.cells Z7 26))):=lH (hr_old ⟨heap_alloc_new w _⟩ _)
 have hr:Hid (HR w (w.heap.size + 1) Z7 26 ((w.alloc (.cells #[.int .i64 K,.string k,.slice A n q,.string u,.string m,.string v,.string e] 26)).alloc (.cells Z7 26))):=lH ⟨by rw [<- hz]; exact heap_alloc_new _ _⟩
 have HS:=lH (((Since.refl w).alloc (.cells #[.int .i64 K,.string k,.slice A n q,.string u,.string m,.string v,.string e] 26)).alloc (.cells Z7 26))
 have HX:=lH (hx.since HS.out)
 have HT:=lH (Tab2.since hT HS.out)
 have HK:=lH (KSet.since hK0 HS.out)
 have m0:=hr_cell hb.out 0 _ rfl
 have m1:=hr_cell hb.out 1 _ rfl
 have m2:=hr_cell hb.out 2 _ rfl
 have m3:=hr_cell hb.out 3 _ rfl
 have m4:=hr_cell hb.out 4 _ rfl
 have m5:=hr_cell hb.out 5 _ rfl
 have m6:=hr_cell hb.out 6 _ rfl
 have HC2:=lH c2
 have HSV:=lH hS
 unfold Z7 at hr HS HX HT hb m0 m1 m2 m3 m4 m5 m6
 clear hx hT hK0 hz hE hn c2 hS
 go_enter Tryz.func21,Tryz.ntmps21
 go_wp2_with fail
 refine c1.calls0 HT.out HX.out ?_
 intro w1 h1
 replace hb:=lH (hb.out.step h1)
 replace hr:=lH (hr.out.step h1)
 replace HX:=lH (HX.out.since h1)
 replace HT:=lH (Tab2.since HT.out h1)
 replace HS:=lH (HS.out.step h1)
 replace HK:=lH (KSet.since HK.out h1)
 clear h1 m0 m1 m2 m3 m4 m5 m6
 by_cases h0:E = 0
 · have q0:(E != 0) = false:=by rw [h0]; rfl
   have m2:=hr_cell hb.out 2 _ rfl
   have HE0:Hid (recE K k L = 0):=lH (HE.out.symm.trans h0)
   clear h0
   go_wp2_with fail
   refine (HC2.out _ _ HK.out HX.out).mono ?_
   rintro _ w3 ⟨y3,rfl,hy,h3⟩
   replace hb:=lH (hb.out.step h3)
   replace hr:=lH (hr.out.step h3)
   replace HX:=lH (HX.out.since h3)
   replace HT:=lH (Tab2.since HT.out h3)
   replace HS:=lH (HS.out.step h3)
   clear h3 m2
   obtain ⟨Ay,cy,rfl,-,-⟩:=hy.slice
   obtain ⟨ny,hny⟩:∃ n,n = S.1.length:=⟨_,rfl⟩
   rw [<- hny] at hy ⊢
   have HY:=lH hy
   obtain ⟨S2,hS2⟩:∃ s,s = S.2:=⟨_,rfl⟩
   have HS2:=lH hS2
   rw [<- hS2]
   clear hny hy hS2
   by_cases hs:S2 = 0
   · have q1:(S2 != 0) = false:=by rw [hs]; rfl
     have HRV:Hid (chgV K k L (u,m,v,e) S = ((K,k,S.1,(u,m,v,e)),0)):=lH (by unfold chgV; rw [if_neg (fun h => h HE0.out),if_neg (fun h => h (HS2.out.symm.trans hs))])
     have HM1:=lH (HSV.out (HS2.out.symm.trans hs))
     have k2:=hr_cell hb.out 2 _ rfl
     have f2:=hr_free hb.out 2
     have HY2:=lH (atts_cell HY.out hb.out 2 A n q rfl (.slice Ay ny cy))
     have hb2:Hid (HR w w.heap.size #[.int .i64 K,.string k,.slice Ay ny cy,.string u,.string m,.string v,.string e] 26 (w3.setCell ⟨w.heap.size,2,none⟩ (.slice Ay ny cy))):=lH (hr_as (hr_set hb.out 2 (.slice Ay ny cy)) (by simp))
     have hr2:=lH (hr_low hr.out hb.out (show w.heap.size + 1 ≠ w.heap.size by omega) 2 (.slice Ay ny cy))
     have HS3:=lH (since_cell HS.out (Nat.le_refl _) 2 (.slice Ay ny cy))
     have p0:=hr_cell hb2.out 0 _ rfl
     have p1:=hr_cell hb2.out 1 _ rfl
     have p2:=hr_cell hb2.out 2 _ rfl
     have p3:=hr_cell hb2.out 3 _ rfl
     have p4:=hr_cell hb2.out 4 _ rfl
     have p5:=hr_cell hb2.out 5 _ rfl
     have p6:=hr_cell hb2.out 6 _ rfl
     clear hb hr HS HX HT HY hs hb2
     go_wp2_with (refine RwL.at_store (ty:=26) rfl ?_; refine wpList_store_row rfl 26 _ _ rfl (w.heap.size + 1) #[.int .i64 K,.string k,.slice Ay ny cy,.string u,.string m,.string v,.string e] (by rfl) (by rfl) _ _ hr2.out.row (r7_info _ _ _ _ _ _ _) rfl (r7_one _ _ _ _ _ _ _ _ _) ?_)
     rw [HRV.out]
     exact bodyPost_ret (v:=.tuple #[.agg #[.int .i64 K,.string k,.slice Ay ny cy,.string u,.string m,.string v,.string e],.int .i64 0]) (results_cell_tmp2 Tryz.results21 _ _ _ _ _ _ _ _ rfl rfl (setRow_heap _ _ _ _ _ _ hr2.out.row) Tryz.underlying26 rfl (r7_info _ _ _ _ _ _ _)) rfl ⟨_,rfl,atts_far HY2.out HM1.out hr2.out _,below_setRow HS3.out (Nat.le_add_right _ _) _⟩
   · have q1:(S2 != 0) = true:=bne_iff_ne.2 hs
     have HRV:Hid (chgV K k L (u,m,v,e) S = (noCd,S2)):=lH (by unfold chgV; rw [if_neg (fun h => h HE0.out),if_pos (fun h => hs (HS2.out.trans h)),HS2.out])
     clear hs HY
     go_wp2_with (refine RwL.at_store (ty:=26) rfl ?_; refine wpList_store_row rfl 26 _ _ rfl (w.heap.size + 1) Z7 (by rfl) (by rfl) _ _ hr.out.row (r7_info _ _ _ _ _ _ _) rfl (r7_one _ _ _ _ _ _ _ _ _) ?_)
     rw [HRV.out]
     exact bodyPost_ret (v:=.tuple #[.agg Z7,.int .i64 S2]) (results_cell_tmp2 Tryz.results21 _ _ _ _ _ _ _ _ rfl rfl (setRow_heap _ _ _ _ _ _ hr.out.row) Tryz.underlying26 rfl (r7_info _ _ _ _ _ _ _)) rfl ⟨_,rfl,AttsS.nil _,below_setRow HS.out (Nat.le_add_right _ _) _⟩
 · have q0:(E != 0) = true:=bne_iff_ne.2 h0
   have HRV:Hid (chgV K k L (u,m,v,e) S = (noCd,E)):=lH (by unfold chgV; rw [if_pos (fun h => h0 (HE.out.trans h)),HE.out])
   clear h0
   go_wp2_with (refine RwL.at_store (ty:=26) rfl ?_; refine wpList_store_row rfl 26 _ _ rfl (w.heap.size + 1) Z7 (by rfl) (by rfl) _ _ hr.out.row (r7_info _ _ _ _ _ _ _) rfl (r7_one _ _ _ _ _ _ _ _ _) ?_)
   rw [HRV.out]
   exact bodyPost_ret (v:=.tuple #[.agg Z7,.int .i64 E]) (results_cell_tmp2 Tryz.results21 _ _ _ _ _ _ _ _ rfl rfl (setRow_heap _ _ _ _ _ _ hr.out.row) Tryz.underlying26 rfl (r7_info _ _ _ _ _ _ _)) rfl ⟨_,rfl,AttsS.nil _,below_setRow HS.out (Nat.le_add_right _ _) _⟩
set_option maxHeartbeats 16000000 in
theorem chdrp_c (K:Int) (k u m v e:ByteArray) (L:List A2) (c1:RdR 17 L (fun x => #[rv K k u m v e x]) (.int .i64 (recE K k L))) (t:Int) (g1:Nat) (S:List A2 × Int) (hS:S.2 = 0 -> ∀ a ∈ S.1,1 <= a.1) (c2:∀ w x,KDrp g1 t w -> AttsS w x L -> Calls Tryz.prog 26 #[x,.pointer (some ⟨g1,0,none⟩)] w fun e w' => ∃ v,e = .returned (.tuple #[v,.int .i64 S.2]) /\ AttsS w' v S.1 /\ Since w w'):∀ w x,Tab2 w -> KDrp g1 t w -> AttsS w x L -> Calls Tryz.prog 21 #[rv K k u m v e x,.func (.func 26) #[] #[.pointer (some ⟨g1,0,none⟩)]] w fun z w' => ∃ y,z = .returned (.tuple #[rv (chgV K k L (u,m,v,e) S).1.1 (chgV K k L (u,m,v,e) S).1.2.1 (chgV K k L (u,m,v,e) S).1.2.2.2.1 (chgV K k L (u,m,v,e) S).1.2.2.2.2.1 (chgV K k L (u,m,v,e) S).1.2.2.2.2.2.1 (chgV K k L (u,m,v,e) S).1.2.2.2.2.2.2 y,.int .i64 (chgV K k L (u,m,v,e) S).2]) /\ AttsS w' y (chgV K k L (u,m,v,e) S).1.2.2.1 /\ Since w w':=by
 intro w x hT hK0 hx
 obtain ⟨A,q,rfl,-,-⟩:=hx.slice
 obtain ⟨E,hE⟩:∃ E,E = recE K k L:=⟨_,rfl⟩
 rw [<- hE] at c1
 have HE:=lH hE
 obtain ⟨n,hn⟩:∃ n,n = L.length:=⟨_,rfl⟩
 rw [<- hn] at hx ⊢
 have HN:=lH hn
 have hz:(w.alloc (.cells #[.int .i64 K,.string k,.slice A n q,.string u,.string m,.string v,.string e] 26)).heap.size = w.heap.size + 1:=by simp
 have hb:Hid (HR w w.heap.size #[.int .i64 K,.string k,.slice A n q,.string u,.string m,.string v,.string e] 26 ((w.alloc (.cells #[.int .i64 K,.string k,.slice A n q,.string u,.string m,.string v,.string e] 26)).alloc (.cells Z7 26))):=lH (hr_old ⟨heap_alloc_new w _⟩ _)
 have hr:Hid (HR w (w.heap.size + 1) Z7 26 ((w.alloc (.cells #[.int .i64 K,.string k,.slice A n q,.string u,.string m,.string v,.string e] 26)).alloc (.cells Z7 26))):=lH ⟨by rw [<- hz]; exact heap_alloc_new _ _⟩
 have HS:=lH (((Since.refl w).alloc (.cells #[.int .i64 K,.string k,.slice A n q,.string u,.string m,.string v,.string e] 26)).alloc (.cells Z7 26))
 have HX:=lH (hx.since HS.out)
 have HT:=lH (Tab2.since hT HS.out)
 have HK:=lH (KDrp.since hK0 HS.out)
 have m0:=hr_cell hb.out 0 _ rfl
 have m1:=hr_cell hb.out 1 _ rfl
 have m2:=hr_cell hb.out 2 _ rfl
 have m3:=hr_cell hb.out 3 _ rfl
 have m4:=hr_cell hb.out 4 _ rfl
 have m5:=hr_cell hb.out 5 _ rfl
 have m6:=hr_cell hb.out 6 _ rfl
 have HC2:=lH c2
 have HSV:=lH hS
 unfold Z7 at hr HS HX HT hb m0 m1 m2 m3 m4 m5 m6
 clear hx hT hK0 hz hE hn c2 hS
 go_enter Tryz.func21,Tryz.ntmps21
 go_wp2_with fail
 refine c1.calls0 HT.out HX.out ?_
 intro w1 h1
 replace hb:=lH (hb.out.step h1)
 replace hr:=lH (hr.out.step h1)
 replace HX:=lH (HX.out.since h1)
 replace HT:=lH (Tab2.since HT.out h1)
 replace HS:=lH (HS.out.step h1)
 replace HK:=lH (KDrp.since HK.out h1)
 clear h1 m0 m1 m2 m3 m4 m5 m6
 by_cases h0:E = 0
 · have q0:(E != 0) = false:=by rw [h0]; rfl
   have m2:=hr_cell hb.out 2 _ rfl
   have HE0:Hid (recE K k L = 0):=lH (HE.out.symm.trans h0)
   clear h0
   go_wp2_with fail
   refine (HC2.out _ _ HK.out HX.out).mono ?_
   rintro _ w3 ⟨y3,rfl,hy,h3⟩
   replace hb:=lH (hb.out.step h3)
   replace hr:=lH (hr.out.step h3)
   replace HX:=lH (HX.out.since h3)
   replace HT:=lH (Tab2.since HT.out h3)
   replace HS:=lH (HS.out.step h3)
   clear h3 m2
   obtain ⟨Ay,cy,rfl,-,-⟩:=hy.slice
   obtain ⟨ny,hny⟩:∃ n,n = S.1.length:=⟨_,rfl⟩
   rw [<- hny] at hy ⊢
   have HY:=lH hy
   obtain ⟨S2,hS2⟩:∃ s,s = S.2:=⟨_,rfl⟩
   have HS2:=lH hS2
   rw [<- hS2]
   clear hny hy hS2
   by_cases hs:S2 = 0
   · have q1:(S2 != 0) = false:=by rw [hs]; rfl
     have HRV:Hid (chgV K k L (u,m,v,e) S = ((K,k,S.1,(u,m,v,e)),0)):=lH (by unfold chgV; rw [if_neg (fun h => h HE0.out),if_neg (fun h => h (HS2.out.symm.trans hs))])
     have HM1:=lH (HSV.out (HS2.out.symm.trans hs))
     have k2:=hr_cell hb.out 2 _ rfl
     have f2:=hr_free hb.out 2
     have HY2:=lH (atts_cell HY.out hb.out 2 A n q rfl (.slice Ay ny cy))
     have hb2:Hid (HR w w.heap.size #[.int .i64 K,.string k,.slice Ay ny cy,.string u,.string m,.string v,.string e] 26 (w3.setCell ⟨w.heap.size,2,none⟩ (.slice Ay ny cy))):=lH (hr_as (hr_set hb.out 2 (.slice Ay ny cy)) (by simp))
     have hr2:=lH (hr_low hr.out hb.out (show w.heap.size + 1 ≠ w.heap.size by omega) 2 (.slice Ay ny cy))
     have HS3:=lH (since_cell HS.out (Nat.le_refl _) 2 (.slice Ay ny cy))
     have p0:=hr_cell hb2.out 0 _ rfl
     have p1:=hr_cell hb2.out 1 _ rfl
     have p2:=hr_cell hb2.out 2 _ rfl
     have p3:=hr_cell hb2.out 3 _ rfl
     have p4:=hr_cell hb2.out 4 _ rfl
     have p5:=hr_cell hb2.out 5 _ rfl
     have p6:=hr_cell hb2.out 6 _ rfl
     clear hb hr HS HX HT HY hs hb2
     go_wp2_with (refine RwL.at_store (ty:=26) rfl ?_; refine wpList_store_row rfl 26 _ _ rfl (w.heap.size + 1) #[.int .i64 K,.string k,.slice Ay ny cy,.string u,.string m,.string v,.string e] (by rfl) (by rfl) _ _ hr2.out.row (r7_info _ _ _ _ _ _ _) rfl (r7_one _ _ _ _ _ _ _ _ _) ?_)
     rw [HRV.out]
     exact bodyPost_ret (v:=.tuple #[.agg #[.int .i64 K,.string k,.slice Ay ny cy,.string u,.string m,.string v,.string e],.int .i64 0]) (results_cell_tmp2 Tryz.results21 _ _ _ _ _ _ _ _ rfl rfl (setRow_heap _ _ _ _ _ _ hr2.out.row) Tryz.underlying26 rfl (r7_info _ _ _ _ _ _ _)) rfl ⟨_,rfl,atts_far HY2.out HM1.out hr2.out _,below_setRow HS3.out (Nat.le_add_right _ _) _⟩
   · have q1:(S2 != 0) = true:=bne_iff_ne.2 hs
     have HRV:Hid (chgV K k L (u,m,v,e) S = (noCd,S2)):=lH (by unfold chgV; rw [if_neg (fun h => h HE0.out),if_pos (fun h => hs (HS2.out.trans h)),HS2.out])
     clear hs HY
     go_wp2_with (refine RwL.at_store (ty:=26) rfl ?_; refine wpList_store_row rfl 26 _ _ rfl (w.heap.size + 1) Z7 (by rfl) (by rfl) _ _ hr.out.row (r7_info _ _ _ _ _ _ _) rfl (r7_one _ _ _ _ _ _ _ _ _) ?_)
     rw [HRV.out]
     exact bodyPost_ret (v:=.tuple #[.agg Z7,.int .i64 S2]) (results_cell_tmp2 Tryz.results21 _ _ _ _ _ _ _ _ rfl rfl (setRow_heap _ _ _ _ _ _ hr.out.row) Tryz.underlying26 rfl (r7_info _ _ _ _ _ _ _)) rfl ⟨_,rfl,AttsS.nil _,below_setRow HS.out (Nat.le_add_right _ _) _⟩
 · have q0:(E != 0) = true:=bne_iff_ne.2 h0
   have HRV:Hid (chgV K k L (u,m,v,e) S = (noCd,E)):=lH (by unfold chgV; rw [if_pos (fun h => h0 (HE.out.trans h)),HE.out])
   clear h0
   go_wp2_with (refine RwL.at_store (ty:=26) rfl ?_; refine wpList_store_row rfl 26 _ _ rfl (w.heap.size + 1) Z7 (by rfl) (by rfl) _ _ hr.out.row (r7_info _ _ _ _ _ _ _) rfl (r7_one _ _ _ _ _ _ _ _ _) ?_)
   rw [HRV.out]
   exact bodyPost_ret (v:=.tuple #[.agg Z7,.int .i64 E]) (results_cell_tmp2 Tryz.results21 _ _ _ _ _ _ _ _ rfl rfl (setRow_heap _ _ _ _ _ _ hr.out.row) Tryz.underlying26 rfl (r7_info _ _ _ _ _ _ _)) rfl ⟨_,rfl,AttsS.nil _,below_setRow HS.out (Nat.le_add_right _ _) _⟩
theorem chg_tags (K:Int) (k:ByteArray) (L:List A2) (H:Hd) (S:List A2 × Int) (hS:S.2 = 0 -> ∀ a ∈ S.1,1 <= a.1):∀ a ∈ (chgV K k L H S).1.2.2.1,1 <= a.1:=by
 intro a ha
 unfold chgV at ha
 by_cases h1:recE K k L = 0
 · rw [if_neg (fun h => h h1)] at ha
   by_cases h2:S.2 = 0
   · rw [if_neg (fun h => h h2)] at ha
     exact hS h2 a ha
   · rw [if_pos h2] at ha
     cases ha
 · rw [if_pos h1] at ha
   cases ha
theorem set_tags (L:List A2) (t:Int) (y:ByteArray):(setR L t y).2 = 0 -> ∀ a ∈ (setR L t y).1,1 <= a.1:=by
 intro h
 cases h1:attOk L with
 | false => rw [setR_1 t y h1] at h; cases h
 | true =>
   cases h2:attOk (setA L (t,y)) with
   | false => rw [setR_2 h1 h2] at h; cases h
   | true =>
     rw [setR_3 h1 h2]
     exact fun a ha => (((Atm.attOk_iff _).1 h2).2.2 a ha).1
theorem drp_tags (L:List A2) (t:Int):(drpR L t).2 = 0 -> ∀ a ∈ (drpR L t).1,1 <= a.1:=by
 intro h
 cases h1:attOk L with
 | false => rw [drpR_1 t h1] at h; cases h
 | true =>
   cases h2:getB L t with
   | false => rw [drpR_2 h1 h2] at h; cases h
   | true =>
     rw [drpR_3 h1 h2]
     exact fun a ha => (((Atm.attOk_iff _).1 h1).2.2 a (List.mem_filter.1 (show a ∈ List.filter _ L from ha)).1).1
end Rcd
end Go.Proofs.YtfnmakelbijmkaaGreatDoor
