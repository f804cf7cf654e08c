import Derived.Test.YtcdjfmlanicjlaaGreatDoorSl51
set_option maxRecDepth 100000
namespace Go.Proofs.YtcdjfmlanicjlaaGreatDoor
open Go.RowKit
namespace Rcd
open Att Kind Rec Atf Rw Flt Tlv
def Wd (W:World) (g:Nat) (L:List ByteArray):Prop:=g < W.heap.size /\ ∀ (j:Nat) x,L[j]? = some x -> W.cell? ⟨g,j,none⟩ = some (.string x)
theorem Wd.since {W W':World} {g:Nat} {L:List ByteArray} (h:Wd W g L) (hs:Since W W'):Wd W' g L:=⟨Nat.lt_of_lt_of_le h.1 (Below.size hs),fun j x hx => (Below.cell hs (p:=⟨g,j,none⟩) h.1).trans (h.2 j x hx)⟩
theorem Wd.set {w W:World} {g gC:Nat} {C:Array Value} {t:TypeId} {L:List ByteArray} (h:Wd W g L) (hc:HR w gC C t W) (hne:g ≠ gC) (k:Nat) (v:Value):Wd (W.setCell ⟨gC,k,none⟩ v) g L:=by
 rw [Go.setCell_eq_setRow W gC k C t _ v hc.row]
 refine ⟨?_,fun j x hx => (cell_setRow hne).trans (h.2 j x hx)⟩
 have h5:=setRow_other W gC g (C.setIfInBounds k v) hne
 have h6:=Array.getElem?_eq_getElem h.1
 rw [<- h5] at h6
 exact (Array.getElem?_eq_some_iff.1 h6).1
theorem slr_oth {w W:World} {g k n:Nat} {v:Value} {cs:List Value} {C:Array Value} {t:TypeId} (h:SlR W k v n cs) (hg:HR w g C t W) (hne:v.ownBlock ≠ some g) (j:Nat) (x:Value):SlR (W.setCell ⟨g,j,none⟩ x) k v n cs:=by
 obtain ⟨hl,A,c,rfl,h1,h2,h3⟩:=h
 refine ⟨hl,A,c,rfl,h1,h2, ?_⟩
 rcases h3 with h3 | ⟨b,o,rfl,hlt,hc⟩
 · exact Or.inl h3
 · have hb:b ≠ g:=fun e => hne (by rw [e]; rfl)
   rw [Go.setCell_eq_setRow W g j C t _ x hg.row]
   refine Or.inr ⟨b,o,rfl, ?_,fun i u hu => (cell_setRow hb).trans (hc i u hu)⟩
   have h5:=setRow_other W g b (C.setIfInBounds j x) hb
   have h6:=Array.getElem?_eq_getElem hlt
   rw [<- h5] at h6
   exact (Array.getElem?_eq_some_iff.1 h6).1
theorem slr_row {W:World} {g k n:Nat} {v:Value} {cs:List Value} (h:SlR W k v n cs) (hne:v.ownBlock ≠ some g) (new:Array Value):SlR (W.setRow g new) k v n cs:=by
 obtain ⟨hl,A,c,rfl,h1,h2,h3⟩:=h
 refine ⟨hl,A,c,rfl,h1,h2, ?_⟩
 rcases h3 with h3 | ⟨b,o,rfl,hlt,hc⟩
 · exact Or.inl h3
 · have hb:b ≠ g:=fun e => hne (by rw [e]; rfl)
   refine Or.inr ⟨b,o,rfl, ?_,fun i u hu => (cell_setRow hb).trans (hc i u hu)⟩
   have h5:=setRow_other W g b new hb
   have h6:=Array.getElem?_eq_getElem hlt
   rw [<- h5] at h6
   exact (Array.getElem?_eq_some_iff.1 h6).1
def textC (c:Cd):ByteArray:=textV c.1 c.2.1 c.2.2.1 c.2.2.2.1 c.2.2.2.2.1 c.2.2.2.2.2.1 c.2.2.2.2.2.2
def parV (t:ByteArray):Cd × Int:=match candP t.data.toList with
 | none => (noCd,5)
 | some c => if textC c = t then (c,0) else (noCd,5)
theorem cand_1 (w0 w1:List UInt8) (ws:List (List UInt8)) (h:unH w1 = none):candW (w0 :: w1 :: ws) = none:=by
 rw [candW,h]
theorem cand_2 (w0 w1:List UInt8) (ws:List (List UInt8)) (X:ByteArray) (l:List UInt8) (h:unH w1 = some X) (hl:(w0 :: w1 :: ws).getLastD [] = l) (hh:¬ l.head? = some 64):candW (w0 :: w1 :: ws) = (match attsP ws with
   | none => none
   | some L => some (namedV w0,X,L,noH)):=by
 rw [candW,h]
 dsimp only
 rw [hl,if_neg hh]
 cases attsP ws <;> rfl
theorem unH_size {w:List UInt8} {X:ByteArray} (h:unH w = some X):2 * X.size <= w.length:=by
 unfold unH at h
 split at h
 · rename_i hb
   cases h
   unfold Dig.unS
   rw [if_pos hb,bs_nums,size_bs,List.length_map,List.length_map,List.length_range]
   omega
 · cases h
theorem last_is {α:Type} (l:List α) (d x:α) (n:Nat) (h:l[n]? = some x) (hn:l.length = n + 1):l.getLastD d = x:=by
 rw [List.getLastD_eq_getLast?,List.getLast?_eq_getElem?,hn,Nat.add_sub_cancel,h]
 rfl
theorem cut2 (g n2 c:Nat) (hc:n2 + 2 <= c):∃ A',(∀ W,(Instr.slice 47 (.slice (some ⟨g,0,none⟩) (n2 + 2) c) (some (.int .i64 2)) none none).run Tryz.prog W = .ok (.slice A' n2 (c - 2)) W) /\ (n2 = 0 ∨ A' = some ⟨g,2,none⟩):=by
 have ht:=Tryz.underlying47
 have ht':Tryz.prog.underlying 47 = some (.slice (Tryz.prog.elem 47)):=by simp [Program.elem,ht]
 have he:Tryz.prog.elem 47 = 9:=by simp [Program.elem,ht]
 have hz:∀ w,(Go.sizeOf 9).run Tryz.prog w = .ok 1 w:=by intro w; kernel_rfl
 refine ⟨if c = 2 then some ⟨g,0,none⟩ else (some (⟨g,0,none⟩:Addr)).map (·.add (2 * 1)),fun W => ?_, ?_⟩
 · rw [run_slice_l W 47 _ _ _ ht' .i64 2 (by omega) (by omega),he,hz]
   simp only [Result.andThen,sliced]
   rfl
 · by_cases h:c = 2
   · exact Or.inl (by omega)
   · rw [if_neg h]
     exact Or.inr rfl
theorem Wd.tail {W:World} {g c:Nat} {x0 x1:ByteArray} {ws:List ByteArray} {A:Option Addr} (h:Wd W g (x0 :: x1 :: ws)) (hA:ws.length = 0 ∨ A = some ⟨g,2,none⟩) (hc:ws.length <= c) (hm:c <= maxLen):StrsS W (.slice A ws.length c) ws:=by
 refine ⟨by simp,A,c,rfl,hc,hm, ?_⟩
 rcases hA with hA | rfl
 · exact Or.inl hA
 · refine Or.inr ⟨g,2,rfl,h.1,fun i u hu => ?_⟩
   rw [List.getElem?_map] at hu
   cases hq:ws[i]? with
   | none => rw [hq] at hu; cases hu
   | some y =>
     rw [hq] at hu
     cases hu
     exact h.2 (2 + i) y (by rw [show 2 + i = i + 2 by omega]; exact hq)
theorem hr_as {w W:World} {g:Nat} {C C':Array Value} {t:TypeId} (h:HR w g C t W) (e:C = C'):HR w g C' t W:=e ▸ h
theorem unH_64 {w:List UInt8} {X:ByteArray} (h:unH w = some X):¬ w.head? = some 64:=by
 intro h6
 unfold unH at h
 split at h
 · rename_i hb
   unfold Dig.unB at hb
   rw [Bool.and_eq_true] at hb
   match w,h6,hb with
   | c :: [],_,hb => exact absurd (of_decide_eq_true hb.1) (by show ¬ 1 % 2 = 0; decide)
   | c :: d :: r,h6,hb =>
     cases h6
     have h1:=Dig.okN_le _ 1 _ hb.2 (by show 1 <= (r.length + 1 + 1) / 2; omega)
     unfold Dig.okN at h1
     rw [List.all_eq_true] at h1
     have h2:=h1 0 (List.mem_range.2 (by omega))
     rw [Bool.and_eq_true] at h2
     exact absurd (of_decide_eq_true h2.1) (by show ¬ (0:Int) <= Dig.val 64; decide)
 · cases h
theorem cand_3 (w0 w1:List UInt8) (ws:List (List UInt8)) (X:ByteArray) (l:List UInt8) (h:unH w1 = some X) (hl:(w0 :: w1 :: ws).getLastD [] = l) (hh:l.head? = some 64):candW (w0 :: w1 :: ws) = (match headP l.tail with
   | none => none
   | some H => match attsP ws.dropLast with
     | none => none
     | some L => some (namedV w0,X,L,H)):=by
 rw [candW,h]
 dsimp only
 rw [hl,if_pos hh]
 cases headP l.tail with
 | none => rfl
 | some H => cases attsP ws.dropLast <;> rfl
theorem cut3 (g n2 n3 c:Nat) (A:Option Addr) (hn:n3 <= n2) (hc:n2 <= c) (hA:A = some ⟨g,2,none⟩):∃ A',(∀ W,(Instr.slice 47 (.slice A n2 c) none (some (.int .i64 (n3:Int))) none).run Tryz.prog W = .ok (.slice A' n3 c) W) /\ (n3 = 0 ∨ A' = some ⟨g,2,none⟩):=by
 subst hA
 have ht:=Tryz.underlying47
 have ht':Tryz.prog.underlying 47 = some (.slice (Tryz.prog.elem 47)):=by simp [Program.elem,ht]
 have he:Tryz.prog.elem 47 = 9:=by simp [Program.elem,ht]
 have hz:∀ w,(Go.sizeOf 9).run Tryz.prog w = .ok 1 w:=by intro w; kernel_rfl
 refine ⟨if c - 0 = 0 then some ⟨g,2,none⟩ else (some (⟨g,2,none⟩:Addr)).map (·.add (0 * 1)),fun W => ?_, ?_⟩
 · rw [run_slice_h W 47 _ _ _ ht' .i64 n3 (by omega) (by omega),he,hz]
   simp only [Result.andThen,sliced]
   rfl
 · refine Or.inr ?_
   split <;> rfl
theorem Wd.front {W:World} {g c n3:Nat} {x0 x1:ByteArray} {ws:List ByteArray} {A:Option Addr} (h:Wd W g (x0 :: x1 :: ws)) (hn:ws.length = n3 + 1) (hA:n3 = 0 ∨ A = some ⟨g,2,none⟩) (hc:n3 <= c) (hm:c <= maxLen):StrsS W (.slice A n3 c) ws.dropLast:=by
 have hd:ws.dropLast.length = n3:=by rw [List.length_dropLast,hn]; rfl
 have h9:=Wd.tail (ws:=ws.dropLast) (A:=A) (c:=c) (W:=W) (g:=g) (x0:=x0) (x1:=x1) ⟨h.1,fun j x hx => h.2 j x (by
   match j,hx with
   | 0,hx => exact hx
   | 1,hx => exact hx
   | j + 2,hx =>
     have h8:ws.dropLast[j]? = some x:=hx
     show ws[j]? = some x
     rw [List.dropLast_eq_take,List.getElem?_take] at h8
     split at h8
     · exact h8
     · cases h8)⟩ (by rw [hd]; exact hA) (by rw [hd]; exact hc) hm
 rw [hd] at h9
 exact h9
theorem splN_le (c:UInt8) (k:Nat) (l x:List UInt8) (h:x ∈ Sp.splN c (k + 1) l):x.length <= l.length:=by
 have h1:=Sp.splB_list c k (bs l)
 rw [list_bs] at h1
 rw [<- h1] at h
 obtain ⟨y,hy,rfl⟩:=List.mem_map.1 h
 have h2:=Sp.splB_le c k (bs l) y hy
 rw [size_bs] at h2
 exact h2
theorem headP_size {l:List UInt8} {H:Hd} (h:headP l = some H):2 * H.1.size <= l.length /\ 2 * H.2.1.size <= l.length /\ 2 * H.2.2.1.size <= l.length /\ 2 * H.2.2.2.size <= l.length:=by
 unfold headP at h
 split at h
 · rename_i a b c d hs
   split at h
   · rename_i u m v e ha hb hc hd
     cases h
     have q:=fun x hx => splN_le 44 4 l x (by rw [hs]; exact hx)
     exact ⟨Nat.le_trans (unH_size ha) (q a (by simp)),Nat.le_trans (unH_size hb) (q b (by simp)),Nat.le_trans (unH_size hc) (q c (by simp)),Nat.le_trans (unH_size hd) (q d (by simp))⟩
   · cases h
 · cases h
theorem ext_tail (s:ByteArray):(s.extract 1 s.size).data.toList = s.data.toList.tail:=by
 rw [ByteArray.data_extract,Array.toList_extract]
 show (s.data.toList.drop 1).take (s.data.toList.length - 1) = _
 rw [List.drop_one,List.take_of_length_le (by rw [List.length_tail]; exact Nat.le_refl _)]
set_option maxHeartbeats 8000000 in
theorem parse_two (t:ByteArray) (hm4:t.size <= 40000) (hn:2 <= (Sp.splN 32 36 t.data.toList).length) (R:Cd) (C:Int) (hRC:parV t = (R,C)):ParR 27 t R C:=by
 have hm:t.size <= 1000000:=by omega
 have HM4:=lH hm4
 have HNN:=lH hn
 have HRC:=lH hRC
 clear hn hRC hm4
 intro w hT
 have HT:=lH hT
 have c1:=fun w => Sp.splitN_mk t 32 36 (by decide) (by decide) hm w
 have hz:(w.alloc (.cells Z7 60)).heap.size = w.heap.size + 1:=by simp
 have hr:Hid (HR w w.heap.size Z7 60 ((w.alloc (.cells Z7 60)).alloc (.cells Z7 60))):=lH (hr_old ⟨heap_alloc_new w _⟩ _)
 have hc:Hid (HR w (w.heap.size + 1) Z7 60 ((w.alloc (.cells Z7 60)).alloc (.cells Z7 60))):=lH ⟨by rw [<- hz]; exact heap_alloc_new _ _⟩
 have HS:=lH (((Since.refl w).alloc (.cells Z7 60)).alloc (.cells Z7 60))
 have hz2:((w.alloc (.cells Z7 60)).alloc (.cells Z7 60)).heap.size = w.heap.size + 1 + 1:=by simp
 clear hT hz
 unfold Z7 at hr hc HS hz2
 go_enter Tryz.func27,Tryz.ntmps27
 go_wp2_with fail
 refine wp_scope_some 1 ?_
 go_wp2_with fail
 refine (c1 _).mono ?_
 rintro _ w1 ⟨N,L,rfl,hv,hL,hzz,h1⟩
 rw [hz2] at hv ⊢
 replace hr:=lH (hr.out.step h1)
 replace hc:=lH (hc.out.step h1)
 replace HS:=lH (HS.out.step h1)
 clear h1 hz2
 obtain ⟨x0,x1,ws,rfl⟩:∃ x0 x1 ws,L = x0 :: x1 :: ws:=by
   have h9:=HNN.out
   rw [<- hL,List.length_map] at h9
   match L,h9 with
   | x0 :: x1 :: ws,_ => exact ⟨x0,x1,ws,rfl⟩
 obtain ⟨bb,oo,cc,h2,hnc,hcm,h4,h3⟩:=SlR.form hv (by show 0 < ws.length + 1 + 1; omega)
 obtain ⟨e1,-,e3⟩:=Value.slice.inj h2
 cases e1
 subst e3
 have HNC:=lH hnc
 have HNM:=lH hcm
 obtain ⟨gS,hgS⟩:∃ g,g = w.heap.size + 1 + 1:=⟨_,rfl⟩
 rw [<- hgS] at hv h3 h4 ⊢
 have hW:Wd w1 gS (x0 :: x1 :: ws):=⟨h4,fun j y hy => by
   have h9:=h3 j (.string y) (by rw [List.getElem?_map,hy]; rfl)
   rw [Nat.zero_add] at h9
   exact h9⟩
 have HW:=lH hW
 have HL:=lH hL
 have HZ:=lH hzz
 have HGS:=lH hgS
 have hle:(x0 :: x1 :: ws).length <= 36:=by
   have h9:=congrArg List.length hL
   rw [List.length_map] at h9
   rw [h9,<- Sp.splB_list,List.length_map]
   exact (Sp.splB_len 32 35 t).1
 obtain ⟨n,hnL⟩:∃ n,n = (x0 :: x1 :: ws).length:=⟨_,rfl⟩
 rw [<- hnL] at hle ⊢
 obtain ⟨n1,hn1⟩:∃ m,n = m + 1:=⟨ws.length + 1,by rw [hnL]; rfl⟩
 obtain ⟨n2,hn2⟩:∃ m,n1 = m + 1:=⟨ws.length,by
   have h9:n = ws.length + 1 + 1:=hnL
   omega⟩
 have HNL:=lH hnL
 have HLE:=lH hle
 have HN1:=lH hn1
 have HN2:=lH hn2
 have HNW:=lH (show n2 = ws.length by
   have h9:n = ws.length + 1 + 1:=hnL
   omega)
 obtain ⟨last,hlast⟩:∃ y,(x0 :: x1 :: ws)[n1]? = some y:=⟨_,List.getElem?_eq_getElem (by rw [<- hnL]; omega)⟩
 have HLA:=lH hlast
 have m0:=hW.2 0 x0 rfl
 have m1:=hW.2 1 x1 rfl
 have mL:=hW.2 n1 last hlast
 have w6:IntKind.i64.wrap ((n:Int) - 1) = (n1:Int):=by rw [IntKind.wrap_i64]; omega
 have i0:(0:Int) <= (n1:Int):=by omega
 have i1:(n1:Int) < (n:Int):=by omega
 have i2:(0:Int) < (n:Int):=by omega
 have i3:(1:Int) < (n:Int):=by omega
 have i4:(2:Int) <= (n:Int):=by omega
 have j1:decide ((n:Int) < 2) = false:=decide_eq_false (by omega)
 clear h2 h3 h4 hnc hcm hv hL hzz hgS hnL hn1 hn2 hlast hW hle
 have hcw:candP t.data.toList = candW (x0.data.toList :: x1.data.toList :: ws.map (fun z:ByteArray => z.data.toList)):=by
   unfold candP
   rw [<- HL.out]
   rfl
 have HCW:=lH hcw
 have hgl:(x0.data.toList :: x1.data.toList :: ws.map (fun z:ByteArray => z.data.toList)).getLastD [] = last.data.toList:=by
   refine last_is _ _ _ n1 ?_ ?_
   · have h9:=HLA.out
     have h8:((x0 :: x1 :: ws).map (fun z:ByteArray => z.data.toList))[n1]? = some last.data.toList:=by rw [List.getElem?_map,h9]; rfl
     exact h8
   · have h9:=HNL.out
     have h8:=HN1.out
     show (ws.map _).length + 1 + 1 = n1 + 1
     rw [List.length_map]
     have h7:(x0 :: x1 :: ws).length = ws.length + 1 + 1:=rfl
     omega
 have HGL:=lH hgl
 clear hcw hgl
 go_wp2_with fail
 refine (named_k x0).calls0 (Kp.keep HT.out HS.out).1 ?_
 intro w2 hq
 replace hr:=lH (hr.out.step hq)
 replace hc:=lH (hc.out.step hq)
 replace HS:=lH (HS.out.step hq)
 replace HW:=lH (HW.out.since hq)
 clear hq
 clear m0 m1 mL
 obtain ⟨K,hK⟩:∃ K,K = namedV x0.data.toList:=⟨_,rfl⟩
 rw [<- hK]
 have HK:=lH hK
 clear hK
 have kk:w2.cell? ⟨w.heap.size + 1,0,none⟩ = some (.int .i64 0):=hr_cell hc.out 0 _ rfl
 have ff:=hr_free hc.out 0
 have hc2:=lH (hr_set hc.out 0 (.int .i64 K))
 have hr2:=lH (hr_low hr.out hc.out (show w.heap.size ≠ w.heap.size + 1 by omega) 0 (.int .i64 K))
 have HS2:=lH (since_cell HS.out (show w.heap.size <= w.heap.size + 1 by omega) 0 (.int .i64 K))
 have HW2:=lH (Wd.set HW.out hc.out (show gS ≠ w.heap.size + 1 by rw [HGS.out]; omega) 0 (.int .i64 K))
 clear hc hr HS HW
 have m1:=HW2.out.2 1 x1 rfl
 obtain ⟨X,B,c2,u2⟩:=unhex_m x1 (Nat.le_trans (HZ.out x1 (by simp)) (by omega))
 go_wp2_with fail
 generalize w2.setCell ⟨w.heap.size + 1,0,none⟩ (.int .i64 K) = w3 at hc2 hr2 HS2 HW2 ⊢
 have hc:=hc2
 have hr:=hr2
 have HS:=HS2
 have HW:=HW2
 clear hc2 hr2 HS2 HW2 kk ff
 clear m1
 refine c2.calls0 ?_
 intro w4 hq
 replace hr:=lH (hr.out.step hq)
 replace hc:=lH (hc.out.step hq)
 replace HS:=lH (HS.out.step hq)
 replace HW:=lH (HW.out.since hq)
 clear hq
 have kk:w4.cell? ⟨w.heap.size + 1,1,none⟩ = some (.string ⟨#[]⟩):=hr_cell hc.out 1 _ rfl
 have ff:=hr_free hc.out 1
 have hc2:=lH (hr_set hc.out 1 (.string X))
 have hr2:=lH (hr_low hr.out hc.out (show w.heap.size ≠ w.heap.size + 1 by omega) 1 (.string X))
 have HS2:=lH (since_cell HS.out (show w.heap.size <= w.heap.size + 1 by omega) 1 (.string X))
 have HW2:=lH (Wd.set HW.out hc.out (show gS ≠ w.heap.size + 1 by rw [HGS.out]; omega) 1 (.string X))
 clear hc hr HS HW
 cases B with
 | false =>
   have HP:Hid (parV t = (noCd,5)):=lH (by unfold parV; rw [HCW.out,cand_1 _ _ _ u2])
   clear u2
   go_wp2_with fail
   generalize w4.setCell ⟨w.heap.size + 1,1,none⟩ (.string X) = w5 at hc2 hr2 HS2 HW2 ⊢
   have hc:=hc2
   have hr:=hr2
   have HS:=HS2
   have HW:=HW2
   clear hc2 hr2 HS2 HW2 kk ff
   go_step3
   refine ⟨_,rfl, ?_⟩
   have e9:=HRC.out.symm.trans HP.out
   cases e9
   go_wp2_with (refine RwL.at_store (ty:=60) rfl ?_; refine wpList_store_row rfl 60 _ _ rfl w.heap.size Z7 (by rfl) (by rfl) _ _ hr.out.row (r7_info _ _ _ _ _ _ _) rfl (r7_one _ _ _ _ _ _ _ _ _) ?_)
   exact bodyPost_ret (v:=.tuple #[.agg Z7,.int .i64 5]) (results_cell_tmp2 Tryz.results27 _ _ _ _ _ _ _ _ rfl rfl (setRow_heap _ _ _ _ _ _ hr.out.row) Tryz.underlying60 rfl (r7_info _ _ _ _ _ _ _)) rfl ⟨_,rfl,AttsS.nil _,below_setRow HS.out (Nat.le_refl _) _⟩
 | true =>
   by_cases hh:last.data.toList.head? = some 64
   · have hn2:n2 ≠ 0:=fun e0 => by
       have h9:=HLA.out
       have h8:=HN2.out
       rw [e0] at h8
       rw [h8] at h9
       have h7:x1 = last:=Option.some.inj h9
       rw [<- h7] at hh
       exact unH_64 u2 hh
     obtain ⟨n3,hn3⟩:∃ m,n2 = m + 1:=⟨n2 - 1,by omega⟩
     have HN3:=lH hn3
     have HH:=lH hh
     have p0:((1:Int) <= (last.size:Int)):=by
       have h9:=hh
       have h8:last.data.toList.length = last.size:=rfl
       cases hq:last.data.toList with
       | nil => rw [hq] at h9; cases h9
       | cons c r => rw [hq] at h8; rw [<- h8]; show (1:Int) <= ((r.length + 1:Nat):Int); omega
     have w7:IntKind.i64.wrap ((n2:Int) - 1) = (n3:Int):=by rw [IntKind.wrap_i64]; have:=HLE.out; have:=HN1.out; have:=HN2.out; omega
     obtain ⟨A2,s2,a2⟩:=cut2 gS n2 N (by have h9:=HNC.out; have h8:=HNW.out; have h7:(x0 :: x1 :: ws).length = ws.length + 2:=rfl; omega)
     rw [show n2 + 2 = n by have:=HN1.out; have:=HN2.out; omega] at s2
     obtain ⟨A3,s3,a3⟩:=cut3 gS n2 n3 (N - 2) A2 (by omega) (by have h9:=HNC.out; have h8:=HNW.out; have h7:(x0 :: x1 :: ws).length = ws.length + 2:=rfl; omega) (a2.resolve_left hn2)
     have HA3:=lH a3
     have HK2:=lH u2
     have c5:=prefix_ret last (Nat.le_trans (HZ.out last (List.mem_of_getElem? HLA.out)) hm) true (decide_eq_true hh).symm
     obtain ⟨yy,hyy⟩:∃ z,z = last.extract 1 last.size:=⟨_,rfl⟩
     have HYY:=lH hyy
     clear u2 a2 a3 hn2 hn3 hh hyy
     go_wp2_with fail
     generalize w4.setCell ⟨w.heap.size + 1,1,none⟩ (.string X) = w5 at hc2 hr2 HS2 HW2 ⊢
     have hc:=hc2
     have hr:=hr2
     have HS:=HS2
     have HW:=HW2
     clear hc2 hr2 HS2 HW2 kk ff
     refine (c5).calls ?_
     go_wp2_with fail
     obtain ⟨⟨⟨hu,hv,hx,he⟩,Q1⟩,hQ⟩:∃ z,z = hdR yy.data.toList:=⟨_,rfl⟩
     have c7:=head_mk yy (by rw [HYY.out,ByteArray.size_extract]; have:=HZ.out last (List.mem_of_getElem? HLA.out); omega)
     rw [<- hQ] at c7
     have HQ:=lH hQ
     rw [<- HYY.out]
     clear hQ
     refine c7.calls0 ?_
     intro w9 hq
     replace hr:=lH (hr.out.step hq)
     replace hc:=lH (hc.out.step hq)
     replace HS:=lH (HS.out.step hq)
     replace HW:=lH (HW.out.since hq)
     clear hq
     replace hc:=lH (hr_as hc.out (show _ = #[.int .i64 K,.string X,.slice none 0 0,.string ⟨#[]⟩,.string ⟨#[]⟩,.string ⟨#[]⟩,.string ⟨#[]⟩] by simp))
     have k3:w9.cell? ⟨w.heap.size + 1,3,none⟩ = some (.string ⟨#[]⟩):=hr_cell hc.out 3 _ rfl
     have k4:w9.cell? ⟨w.heap.size + 1,4,none⟩ = some (.string ⟨#[]⟩):=hr_cell hc.out 4 _ rfl
     have k5:w9.cell? ⟨w.heap.size + 1,5,none⟩ = some (.string ⟨#[]⟩):=hr_cell hc.out 5 _ rfl
     have k6:w9.cell? ⟨w.heap.size + 1,6,none⟩ = some (.string ⟨#[]⟩):=hr_cell hc.out 6 _ rfl
     have f3:=hr_free hc.out 3
     have f4:=hr_free hc.out 4
     have f5:=hr_free hc.out 5
     have f6:=hr_free hc.out 6
     have hneA:w.heap.size ≠ w.heap.size + 1:=by omega
     have hneB:gS ≠ w.heap.size + 1:=by rw [HGS.out]; omega
     have hleA:w.heap.size <= w.heap.size + 1:=by omega
     have hcA:=hr_set hc.out 3 (.string hu)
     have hcB:=hr_set hcA 4 (.string hv)
     have hcC:=hr_set hcB 5 (.string hx)
     have hc2:=lH (hr_set hcC 6 (.string he))
     have hr2:=lH (hr_low (hr_low (hr_low (hr_low hr.out hc.out hneA 3 (.string hu)) hcA hneA 4 (.string hv)) hcB hneA 5 (.string hx)) hcC hneA 6 (.string he))
     have HS2:=lH (since_cell (since_cell (since_cell (since_cell HS.out hleA 3 (.string hu)) hleA 4 (.string hv)) hleA 5 (.string hx)) hleA 6 (.string he))
     have HW2:=lH (Wd.set (Wd.set (Wd.set (Wd.set HW.out hc.out hneB 3 (.string hu)) hcA hneB 4 (.string hv)) hcB hneB 5 (.string hx)) hcC hneB 6 (.string he))
     clear hc hr HS HW hcA hcB hcC hneA hneB hleA
     have hpH:headP last.data.toList.tail = if Q1 then some (hu,hv,hx,he) else none:=by
       have h9:=HQ.out
       rw [HYY.out,ext_tail] at h9
       unfold hdR at h9
       cases hp:headP last.data.toList.tail with
       | none => rw [hp] at h9; cases (Prod.mk.inj h9).2; rfl
       | some H => rw [hp] at h9; cases (Prod.mk.inj h9).2; cases (Prod.mk.inj h9).1; rfl
     have HPH:=lH hpH
     clear hpH
     cases Q1 with
     | false =>
       replace HPH:Hid (headP last.data.toList.tail = none):=lH (HPH.out.trans (if_neg Bool.false_ne_true))
       go_wp2_with fail
       generalize (((w9.setCell ⟨w.heap.size + 1,3,none⟩ (.string hu)).setCell ⟨w.heap.size + 1,4,none⟩ (.string hv)).setCell ⟨w.heap.size + 1,5,none⟩ (.string hx)).setCell ⟨w.heap.size + 1,6,none⟩ (.string he) = wA at hc2 hr2 HS2 HW2 ⊢
       have hc:=lH (hr_as hc2.out (show _ = #[.int .i64 K,.string X,.slice none 0 0,.string hu,.string hv,.string hx,.string he] by simp))
       have hr:=hr2
       have HS:=HS2
       have HW:=HW2
       clear hc2 hr2 HS2 HW2 k3 k4 k5 k6 f3 f4 f5 f6
       have HP:Hid (parV t = (noCd,5)):=lH (by
         unfold parV
         rw [HCW.out,cand_3 _ _ _ X _ HK2.out HGL.out HH.out,HPH.out])
       clear s2 s3
       go_step3
       refine ⟨_,rfl, ?_⟩
       have e9:=HRC.out.symm.trans HP.out
       cases e9
       go_wp2_with (refine RwL.at_store (ty:=60) rfl ?_; refine wpList_store_row rfl 60 _ _ rfl w.heap.size Z7 (by rfl) (by rfl) _ _ hr.out.row (r7_info _ _ _ _ _ _ _) rfl (r7_one _ _ _ _ _ _ _ _ _) ?_)
       exact bodyPost_ret (v:=.tuple #[.agg Z7,.int .i64 5]) (results_cell_tmp2 Tryz.results27 _ _ _ _ _ _ _ _ rfl rfl (setRow_heap _ _ _ _ _ _ hr.out.row) Tryz.underlying60 rfl (r7_info _ _ _ _ _ _ _)) rfl ⟨_,rfl,AttsS.nil _,below_setRow HS.out (Nat.le_refl _) _⟩
     | true =>
       replace HPH:Hid (headP last.data.toList.tail = some (hu,hv,hx,he)):=lH (HPH.out.trans (if_pos rfl))
       go_wp2_with fail
       generalize (((w9.setCell ⟨w.heap.size + 1,3,none⟩ (.string hu)).setCell ⟨w.heap.size + 1,4,none⟩ (.string hv)).setCell ⟨w.heap.size + 1,5,none⟩ (.string hx)).setCell ⟨w.heap.size + 1,6,none⟩ (.string he) = wA at hc2 hr2 HS2 HW2 ⊢
       have hc:=lH (hr_as hc2.out (show _ = #[.int .i64 K,.string X,.slice none 0 0,.string hu,.string hv,.string hx,.string he] by simp))
       have hr:=hr2
       have HS:=HS2
       have HW:=HW2
       clear hc2 hr2 HS2 HW2 k3 k4 k5 k6 f3 f4 f5 f6
       obtain ⟨wl,hwl⟩:∃ l,l = ws.dropLast:=⟨_,rfl⟩
       have HWL:=lH hwl
       have HWN:Hid (wl.length <= 1000):=lH (by rw [hwl,List.length_dropLast]; have h7:(x0 :: x1 :: ws).length = ws.length + 2:=rfl; have h8:=HLE.out; have h9:=HNL.out; omega)
       have HZL:Hid (∀ x ∈ wl,x.size <= 1000000):=lH (by rw [hwl]; exact fun x hx => Nat.le_trans (HZ.out x (by simp [List.dropLast_subset ws hx])) hm)
       have HWT:Hid (StrsS wA (.slice A3 n3 (N - 2)) wl):=lH (by
         rw [hwl]
         exact Wd.front HW.out (by rw [<- HNW.out]; exact HN3.out) HA3.out (by have h9:=HNC.out; have h8:=HN3.out; have h6:=HNW.out; have h7:(x0 :: x1 :: ws).length = ws.length + 2:=rfl; omega) (by have:=HNM.out; omega))
       clear hwl
       have hw5:w.heap.size + 1 < wA.heap.size:=(Array.getElem?_eq_some_iff.1 hc.out.row).1
       refine (atts_mk wl HWN.out HZL.out _ _ HWT.out).mono ?_
       rintro _ w6 ⟨y,rfl,hy,hfr,hq⟩
       have hyne:y.ownBlock ≠ some (w.heap.size + 1):=fun e => by have:=hfr _ e; omega
       have hyn2:y.ownBlock ≠ some w.heap.size:=fun e => by have:=hfr _ e; omega
       clear HWT
       replace hr:=lH (hr.out.step hq)
       replace hc:=lH (hc.out.step hq)
       replace HS:=lH (HS.out.step hq)
       replace HW:=lH (HW.out.since hq)
       clear hq
       obtain ⟨Ay,cy,rfl,-,-⟩:=hy.slice
       obtain ⟨⟨M,Q⟩,hMQ⟩:∃ z,z = atR wl:=⟨_,rfl⟩
       rw [<- hMQ] at hy hyne hyn2 ⊢
       have HMQ:=lH hMQ
       dsimp only at hy hyne hyn2 ⊢
       have HY:=lH (show AttsS (w6.setCell ⟨w.heap.size + 1,2,none⟩ (.slice Ay M.length cy)) (.slice Ay M.length cy) M from slr_oth hy hc.out hyne 2 _)
       have HY2:=lH hyn2
       obtain ⟨ny,hny⟩:∃ n,n = M.length:=⟨_,rfl⟩
       rw [<- hny] at HY HY2 ⊢
       clear hMQ hfr hw5 hy hyne hyn2 hny
       have kk:w6.cell? ⟨w.heap.size + 1,2,none⟩ = some (.slice none 0 0):=hr_cell hc.out 2 _ rfl
       have ff:=hr_free hc.out 2
       have hc2:=lH (hr_set hc.out 2 (.slice Ay ny cy))
       have hr2:=lH (hr_low hr.out hc.out (show w.heap.size ≠ w.heap.size + 1 by omega) 2 (.slice Ay ny cy))
       have HS2:=lH (since_cell HS.out (show w.heap.size <= w.heap.size + 1 by omega) 2 (.slice Ay ny cy))
       have HW2:=lH (Wd.set HW.out hc.out (show gS ≠ w.heap.size + 1 by rw [HGS.out]; omega) 2 (.slice Ay ny cy))
       clear hc hr HS HW
       cases Q with
       | false =>
         have HP:Hid (parV t = (noCd,5)):=lH (by
           unfold parV
           rw [HCW.out,cand_3 _ _ _ X _ HK2.out HGL.out HH.out,HPH.out]
           dsimp only
           have h9:=HMQ.out
           rw [HWL.out] at h9
           unfold atR at h9
           rw [<- List.map_dropLast]
           cases ha:attsP (ws.dropLast.map (fun z:ByteArray => z.data.toList)) with
           | none => rfl
           | some M2 => rw [ha] at h9; cases (Prod.mk.inj h9).2)
         clear HY HY2 s2 s3
         go_wp2_with fail
         generalize w6.setCell ⟨w.heap.size + 1,2,none⟩ (.slice Ay ny cy) = w7 at hc2 hr2 HS2 HW2 ⊢
         have hc:=hc2
         have hr:=hr2
         have HS:=HS2
         have HW:=HW2
         clear hc2 hr2 HS2 HW2 kk ff
         go_step3
         refine ⟨_,rfl, ?_⟩
         have e9:=HRC.out.symm.trans HP.out
         cases e9
         go_wp2_with (refine RwL.at_store (ty:=60) rfl ?_; refine wpList_store_row rfl 60 _ _ rfl w.heap.size Z7 (by rfl) (by rfl) _ _ hr.out.row (r7_info _ _ _ _ _ _ _) rfl (r7_one _ _ _ _ _ _ _ _ _) ?_)
         exact bodyPost_ret (v:=.tuple #[.agg Z7,.int .i64 5]) (results_cell_tmp2 Tryz.results27 _ _ _ _ _ _ _ _ rfl rfl (setRow_heap _ _ _ _ _ _ hr.out.row) Tryz.underlying60 rfl (r7_info _ _ _ _ _ _ _)) rfl ⟨_,rfl,AttsS.nil _,below_setRow HS.out (Nat.le_refl _) _⟩
       | true =>
         have hca:candP t.data.toList = some (K,X,M,(hu,hv,hx,he)):=by
           rw [HCW.out,cand_3 _ _ _ X _ HK2.out HGL.out HH.out,HK.out,HPH.out]
           dsimp only
           have h9:=HMQ.out
           rw [HWL.out] at h9
           unfold atR at h9
           rw [<- List.map_dropLast]
           cases ha:attsP (ws.dropLast.map (fun z:ByteArray => z.data.toList)) with
           | none => rw [ha] at h9; cases (Prod.mk.inj h9).2
           | some M2 => rw [ha] at h9; cases (Prod.mk.inj h9).1; rfl
         have HCA:=lH hca
         have hXs:X.size <= 100000:=by
           have h9:=unH_size HK2.out
           have h8:x1.data.toList.length = x1.size:=rfl
           have h7:=HZ.out x1 (by simp)
           have h6:=HM4.out
           omega
         have hsz:hu.size <= 20000 /\ hv.size <= 20000 /\ hx.size <= 20000 /\ he.size <= 20000:=by
           have h9:2 * hu.size <= last.data.toList.tail.length /\ 2 * hv.size <= last.data.toList.tail.length /\ 2 * hx.size <= last.data.toList.tail.length /\ 2 * he.size <= last.data.toList.tail.length:=headP_size HPH.out
           have h8:last.data.toList.length = last.size:=rfl
           have h7:=HZ.out last (List.mem_of_getElem? HLA.out)
           have h6:=HM4.out
           rw [List.length_tail,h8] at h9
           omega
         clear s3
         obtain ⟨T,hTx⟩:∃ T,T = textV K X M hu hv hx he:=⟨_,rfl⟩
         have c6:=text_mk K X hu hv hx he M hXs hsz
         rw [<- hTx] at c6
         have HTX:=lH hTx
         replace hc2:=lH (hr_as hc2.out (show _ = #[.int .i64 K,.string X,.slice Ay ny cy,.string hu,.string hv,.string hx,.string he] by simp))
         have l0:=hr_cell hc2.out 0 _ rfl
         have l1:=hr_cell hc2.out 1 _ rfl
         have l2:=hr_cell hc2.out 2 _ rfl
         have l3:=hr_cell hc2.out 3 _ rfl
         have l4:=hr_cell hc2.out 4 _ rfl
         have l5:=hr_cell hc2.out 5 _ rfl
         have l6:=hr_cell hc2.out 6 _ rfl
         clear hca hXs s2 hTx
         go_wp2_with fail
         generalize w6.setCell ⟨w.heap.size + 1,2,none⟩ (.slice Ay ny cy) = w7 at hc2 hr2 HS2 HW2 HY l0 l1 l2 l3 l4 l5 l6 ⊢
         have hc:=hc2
         have hr:=hr2
         have HS:=HS2
         have HW:=HW2
         clear hc2 hr2 HS2 HW2 kk ff l0 l1 l2 l3 l4 l5 l6
         refine c6.calls0 (Kp.keep HT.out HS.out) HY.out ?_
         intro w8 hq
         replace HY:=lH (AttsS.since HY.out hq)
         replace hr:=lH (hr.out.step hq)
         replace hc:=lH (hc.out.step hq)
         replace HS:=lH (HS.out.step hq)
         replace HW:=lH (HW.out.since hq)
         clear hq
         by_cases hTt:T = t
         · have t1:(T.toList == t.toList) = true:=by rw [hTt]; exact beq_self_eq_true _
           have HP:Hid (parV t = ((K,X,M,(hu,hv,hx,he)),0)):=lH (by
             unfold parV
             rw [HCA.out]
             dsimp only
             rw [if_pos]
             show textV K X M hu hv hx he = t
             rw [<- HTX.out,hTt])
           have l0:=hr_cell hc.out 0 _ rfl
           have l1:=hr_cell hc.out 1 _ rfl
           have l2:=hr_cell hc.out 2 _ rfl
           have l3:=hr_cell hc.out 3 _ rfl
           have l4:=hr_cell hc.out 4 _ rfl
           have l5:=hr_cell hc.out 5 _ rfl
           have l6:=hr_cell hc.out 6 _ rfl
           clear hTt
           go_wp2_with (refine RwL.at_store (ty:=60) rfl ?_; refine wpList_store_row rfl 60 _ _ rfl w.heap.size #[.int .i64 K,.string X,.slice Ay ny cy,.string hu,.string hv,.string hx,.string he] (by rfl) (by rfl) _ _ hr.out.row (r7_info _ _ _ _ _ _ _) rfl (r7_one _ _ _ _ _ _ _ _ _) ?_)
           have e9:=HRC.out.symm.trans HP.out
           cases e9
           simp only [Exit.jumps]
           exact bodyPost_ret (v:=.tuple #[rv K X hu hv hx he (.slice Ay ny cy),.int .i64 0]) (results_cell_tmp2 Tryz.results27 _ _ _ _ _ _ _ _ rfl rfl (setRow_heap _ _ _ _ _ _ hr.out.row) Tryz.underlying60 rfl (r7_info _ _ _ _ _ _ _)) rfl ⟨_,rfl,slr_row HY.out HY2.out _,below_setRow HS.out (Nat.le_refl _) _⟩
         · have t1:(T.toList == t.toList) = false:=str_ne_f hTt
           have HP:Hid (parV t = (noCd,5)):=lH (by
             unfold parV
             rw [HCA.out]
             dsimp only
             rw [if_neg]
             intro h9
             apply hTt
             rw [HTX.out]
             exact h9)
           clear hTt HY
           go_wp2_with fail
           have e9:=HRC.out.symm.trans HP.out
           cases e9
           go_step3
           go_wp2_with (refine RwL.at_store (ty:=60) rfl ?_; refine wpList_store_row rfl 60 _ _ rfl w.heap.size Z7 (by rfl) (by rfl) _ _ hr.out.row (r7_info _ _ _ _ _ _ _) rfl (r7_one _ _ _ _ _ _ _ _ _) ?_)
           (try simp only [Exit.jumps])
           exact bodyPost_ret (v:=.tuple #[.agg Z7,.int .i64 5]) (results_cell_tmp2 Tryz.results27 _ _ _ _ _ _ _ _ rfl rfl (setRow_heap _ _ _ _ _ _ hr.out.row) Tryz.underlying60 rfl (r7_info _ _ _ _ _ _ _)) rfl ⟨_,rfl,AttsS.nil _,below_setRow HS.out (Nat.le_refl _) _⟩
   · have hK2:unH x1.data.toList = some X:=u2
     have HK2:=lH hK2
     clear u2 hK2
     obtain ⟨A2,s2,a2⟩:=cut2 gS n2 N (by have h9:=HNC.out; have h8:=HNW.out; have h7:(x0 :: x1 :: ws).length = ws.length + 2:=rfl; omega)
     rw [show n2 + 2 = n by have:=HN1.out; have:=HN2.out; omega] at s2
     have HA2:=lH a2
     clear a2
     have c5:=prefix_ret last (Nat.le_trans (HZ.out last (List.mem_of_getElem? HLA.out)) hm) false (decide_eq_false hh).symm
     go_wp2_with fail
     generalize w4.setCell ⟨w.heap.size + 1,1,none⟩ (.string X) = w5 at hc2 hr2 HS2 HW2 ⊢
     have hc:=hc2
     have hr:=hr2
     have HS:=HS2
     have HW:=HW2
     clear hc2 hr2 HS2 HW2 kk ff
     refine (c5).calls ?_
     go_wp2_with fail
     obtain ⟨wl,hwl⟩:∃ l,l = ws:=⟨_,rfl⟩
     have HWL:=lH hwl
     have HWN:Hid (wl.length <= 1000):=lH (by rw [hwl]; have h7:(x0 :: x1 :: ws).length = ws.length + 2:=rfl; have h8:=HLE.out; have h9:=HNL.out; omega)
     have HZL:Hid (∀ x ∈ wl,x.size <= 1000000):=lH (by rw [hwl]; exact fun x hx => Nat.le_trans (HZ.out x (by simp [hx])) hm)
     have HWT:Hid (StrsS w5 (.slice A2 n2 (N - 2)) wl):=lH (by
       rw [hwl]
       have h9:=Wd.tail HW.out (A:=A2) (c:=N - 2) (by rw [<- HNW.out]; exact HA2.out) (by have h9:=HNC.out; have h7:(x0 :: x1 :: ws).length = ws.length + 2:=rfl; omega) (by have:=HNM.out; omega)
       rw [<- HNW.out] at h9
       exact h9)
     clear hwl
     have hw5:w.heap.size + 1 < w5.heap.size:=(Array.getElem?_eq_some_iff.1 hc.out.row).1
     refine (atts_mk wl HWN.out HZL.out _ _ HWT.out).mono ?_
     rintro _ w6 ⟨y,rfl,hy,hfr,hq⟩
     have hyne:y.ownBlock ≠ some (w.heap.size + 1):=fun e => by have:=hfr _ e; omega
     have hyn2:y.ownBlock ≠ some w.heap.size:=fun e => by have:=hfr _ e; omega
     clear HWT
     replace hr:=lH (hr.out.step hq)
     replace hc:=lH (hc.out.step hq)
     replace HS:=lH (HS.out.step hq)
     replace HW:=lH (HW.out.since hq)
     clear hq
     obtain ⟨Ay,cy,rfl,-,-⟩:=hy.slice
     obtain ⟨⟨M,Q⟩,hMQ⟩:∃ z,z = atR wl:=⟨_,rfl⟩
     rw [<- hMQ] at hy hyne hyn2 ⊢
     have HMQ:=lH hMQ
     dsimp only at hy hyne hyn2 ⊢
     have HY:=lH (show AttsS (w6.setCell ⟨w.heap.size + 1,2,none⟩ (.slice Ay M.length cy)) (.slice Ay M.length cy) M from slr_oth hy hc.out hyne 2 _)
     have HY2:=lH hyn2
     obtain ⟨ny,hny⟩:∃ n,n = M.length:=⟨_,rfl⟩
     rw [<- hny] at HY HY2 ⊢
     clear hMQ hfr hw5 hy hyne hyn2 hny
     have kk:w6.cell? ⟨w.heap.size + 1,2,none⟩ = some (.slice none 0 0):=hr_cell hc.out 2 _ rfl
     have ff:=hr_free hc.out 2
     have hc2:=lH (hr_set hc.out 2 (.slice Ay ny cy))
     have hr2:=lH (hr_low hr.out hc.out (show w.heap.size ≠ w.heap.size + 1 by omega) 2 (.slice Ay ny cy))
     have HS2:=lH (since_cell HS.out (show w.heap.size <= w.heap.size + 1 by omega) 2 (.slice Ay ny cy))
     have HW2:=lH (Wd.set HW.out hc.out (show gS ≠ w.heap.size + 1 by rw [HGS.out]; omega) 2 (.slice Ay ny cy))
     clear hc hr HS HW
     cases Q with
     | false =>
       have HP:Hid (parV t = (noCd,5)):=lH (by
         unfold parV
         rw [HCW.out,cand_2 _ _ _ X _ HK2.out HGL.out hh]
         have h9:=HMQ.out
         rw [HWL.out] at h9
         unfold atR at h9
         cases ha:attsP (ws.map (fun z:ByteArray => z.data.toList)) with
         | none => rfl
         | some M2 => rw [ha] at h9; cases (Prod.mk.inj h9).2)
       clear HY HY2 s2
       go_wp2_with fail
       generalize w6.setCell ⟨w.heap.size + 1,2,none⟩ (.slice Ay ny cy) = w7 at hc2 hr2 HS2 HW2 ⊢
       have hc:=hc2
       have hr:=hr2
       have HS:=HS2
       have HW:=HW2
       clear hc2 hr2 HS2 HW2 kk ff
       go_step3
       refine ⟨_,rfl, ?_⟩
       have e9:=HRC.out.symm.trans HP.out
       cases e9
       go_wp2_with (refine RwL.at_store (ty:=60) rfl ?_; refine wpList_store_row rfl 60 _ _ rfl w.heap.size Z7 (by rfl) (by rfl) _ _ hr.out.row (r7_info _ _ _ _ _ _ _) rfl (r7_one _ _ _ _ _ _ _ _ _) ?_)
       exact bodyPost_ret (v:=.tuple #[.agg Z7,.int .i64 5]) (results_cell_tmp2 Tryz.results27 _ _ _ _ _ _ _ _ rfl rfl (setRow_heap _ _ _ _ _ _ hr.out.row) Tryz.underlying60 rfl (r7_info _ _ _ _ _ _ _)) rfl ⟨_,rfl,AttsS.nil _,below_setRow HS.out (Nat.le_refl _) _⟩
     | true =>
       have hca:candP t.data.toList = some (K,X,M,noH):=by
         rw [HCW.out,cand_2 _ _ _ X _ HK2.out HGL.out hh,HK.out]
         have h9:=HMQ.out
         rw [HWL.out] at h9
         unfold atR at h9
         cases ha:attsP (ws.map (fun z:ByteArray => z.data.toList)) with
         | none => rw [ha] at h9; cases (Prod.mk.inj h9).2
         | some M2 => rw [ha] at h9; cases (Prod.mk.inj h9).1; rfl
       have HCA:=lH hca
       have hXs:X.size <= 100000:=by
         have h9:=unH_size HK2.out
         have h8:x1.data.toList.length = x1.size:=rfl
         have h7:=HZ.out x1 (by simp)
         have h6:=HM4.out
         omega
       obtain ⟨T,hTx⟩:∃ T,T = textV K X M ⟨#[]⟩ ⟨#[]⟩ ⟨#[]⟩ ⟨#[]⟩:=⟨_,rfl⟩
       have c6:=text_mk K X ⟨#[]⟩ ⟨#[]⟩ ⟨#[]⟩ ⟨#[]⟩ M hXs ⟨by decide,by decide,by decide,by decide⟩
       rw [<- hTx] at c6
       have HTX:=lH hTx
       replace hc2:=lH (hr_as hc2.out (show _ = #[.int .i64 K,.string X,.slice Ay ny cy,.string ⟨#[]⟩,.string ⟨#[]⟩,.string ⟨#[]⟩,.string ⟨#[]⟩] by simp))
       have l0:=hr_cell hc2.out 0 _ rfl
       have l1:=hr_cell hc2.out 1 _ rfl
       have l2:=hr_cell hc2.out 2 _ rfl
       have l3:=hr_cell hc2.out 3 _ rfl
       have l4:=hr_cell hc2.out 4 _ rfl
       have l5:=hr_cell hc2.out 5 _ rfl
       have l6:=hr_cell hc2.out 6 _ rfl
       clear hca hXs s2 hTx
       go_wp2_with fail
       generalize w6.setCell ⟨w.heap.size + 1,2,none⟩ (.slice Ay ny cy) = w7 at hc2 hr2 HS2 HW2 HY l0 l1 l2 l3 l4 l5 l6 ⊢
       have hc:=hc2
       have hr:=hr2
       have HS:=HS2
       have HW:=HW2
       clear hc2 hr2 HS2 HW2 kk ff l0 l1 l2 l3 l4 l5 l6
       refine c6.calls0 (Kp.keep HT.out HS.out) HY.out ?_
       intro w8 hq
       replace HY:=lH (AttsS.since HY.out hq)
       replace hr:=lH (hr.out.step hq)
       replace hc:=lH (hc.out.step hq)
       replace HS:=lH (HS.out.step hq)
       replace HW:=lH (HW.out.since hq)
       clear hq
       by_cases hTt:T = t
       · have t1:(T.toList == t.toList) = true:=by rw [hTt]; exact beq_self_eq_true _
         have HP:Hid (parV t = ((K,X,M,noH),0)):=lH (by
           unfold parV
           rw [HCA.out]
           dsimp only
           rw [if_pos]
           show textV K X M ⟨#[]⟩ ⟨#[]⟩ ⟨#[]⟩ ⟨#[]⟩ = t
           rw [<- HTX.out,hTt])
         have l0:=hr_cell hc.out 0 _ rfl
         have l1:=hr_cell hc.out 1 _ rfl
         have l2:=hr_cell hc.out 2 _ rfl
         have l3:=hr_cell hc.out 3 _ rfl
         have l4:=hr_cell hc.out 4 _ rfl
         have l5:=hr_cell hc.out 5 _ rfl
         have l6:=hr_cell hc.out 6 _ rfl
         clear hTt
         go_wp2_with (refine RwL.at_store (ty:=60) rfl ?_; refine wpList_store_row rfl 60 _ _ rfl w.heap.size #[.int .i64 K,.string X,.slice Ay ny cy,.string ⟨#[]⟩,.string ⟨#[]⟩,.string ⟨#[]⟩,.string ⟨#[]⟩] (by rfl) (by rfl) _ _ hr.out.row (r7_info _ _ _ _ _ _ _) rfl (r7_one _ _ _ _ _ _ _ _ _) ?_)
         have e9:=HRC.out.symm.trans HP.out
         cases e9
         simp only [Exit.jumps]
         exact bodyPost_ret (v:=.tuple #[rv K X ⟨#[]⟩ ⟨#[]⟩ ⟨#[]⟩ ⟨#[]⟩ (.slice Ay ny cy),.int .i64 0]) (results_cell_tmp2 Tryz.results27 _ _ _ _ _ _ _ _ rfl rfl (setRow_heap _ _ _ _ _ _ hr.out.row) Tryz.underlying60 rfl (r7_info _ _ _ _ _ _ _)) rfl ⟨_,rfl,slr_row HY.out HY2.out _,below_setRow HS.out (Nat.le_refl _) _⟩
       · have t1:(T.toList == t.toList) = false:=str_ne_f hTt
         have HP:Hid (parV t = (noCd,5)):=lH (by
           unfold parV
           rw [HCA.out]
           dsimp only
           rw [if_neg]
           intro h9
           apply hTt
           rw [HTX.out]
           exact h9)
         clear hTt HY
         go_wp2_with fail
         have e9:=HRC.out.symm.trans HP.out
         cases e9
         go_step3
         go_wp2_with (refine RwL.at_store (ty:=60) rfl ?_; refine wpList_store_row rfl 60 _ _ rfl w.heap.size Z7 (by rfl) (by rfl) _ _ hr.out.row (r7_info _ _ _ _ _ _ _) rfl (r7_one _ _ _ _ _ _ _ _ _) ?_)
         (try simp only [Exit.jumps])
         exact bodyPost_ret (v:=.tuple #[.agg Z7,.int .i64 5]) (results_cell_tmp2 Tryz.results27 _ _ _ _ _ _ _ _ rfl rfl (setRow_heap _ _ _ _ _ _ hr.out.row) Tryz.underlying60 rfl (r7_info _ _ _ _ _ _ _)) rfl ⟨_,rfl,AttsS.nil _,below_setRow HS.out (Nat.le_refl _) _⟩
theorem parse_k (t:ByteArray) (hm:t.size <= 40000):ParR 27 t (parV t).1 (parV t).2:=by
 by_cases h:2 <= (Sp.splN 32 36 t.data.toList).length
 · exact parse_two t hm h _ _ rfl
 · have hv:parV t = (noCd,5):=by
     unfold parV candP
     match hw:Sp.splN 32 36 t.data.toList,h with
     | [],_ => rfl
     | [_],_ => rfl
     | _ :: _ :: _,h => exact absurd (by show 2 <= _ + 1 + 1; omega) h
   rw [hv]
   exact par_1 t (by omega) (by omega)
end Rcd
namespace Rcd
open Att Rec Atf Rw Tlv
end Rcd
namespace Rcd
open Att Kind Rec Atf Rw Flt Tlv
theorem text_list {K:Int} {k:ByteArray} {L:List A2} (u m v e:ByteArray) (h:recE K k L = 0):(textV K k L u m v e).data.toList = Sp.joinC 32 (wordsW K k L u m v e):=by
 unfold textV
 rw [if_pos h,list_bs]
theorem par_text {K:Int} {k:ByteArray} {L:List A2} (u m v e:ByteArray) (h:recE K k L = 0):parV (textV K k L u m v e) = ((K,k,L,(u,m,v,e)),0):=by
 unfold parV
 rw [text_list u m v e h,candP_text u m v e h]
 dsimp only
 rw [if_pos]
 rfl
theorem par_ok {t:ByteArray} (h:(parV t).2 = 0):textC (parV t).1 = t /\ candP t.data.toList = some (parV t).1:=by
 unfold parV at h ⊢
 cases hc:candP t.data.toList with
 | none => rw [hc] at h; exact absurd (show (5:Int) = 0 from h) (by decide)
 | some c =>
   rw [hc] at h
   dsimp only at h ⊢
   by_cases ht:textC c = t
   · rw [if_pos ht]
     exact ⟨ht,rfl⟩
   · rw [if_neg ht] at h
     exact absurd (show (5:Int) = 0 from h) (by decide)
theorem par_no (t:ByteArray):(parV t).2 = 0 ∨ parV t = (noCd,5):=by
 unfold parV
 cases candP t.data.toList with
 | none => exact Or.inr rfl
 | some c =>
   dsimp only
   by_cases ht:textC c = t
   · rw [if_pos ht]
     exact Or.inl rfl
   · rw [if_neg ht]
     exact Or.inr rfl
end Rcd
namespace Rcd
open Att Kind Rec Atf Rw Flt Tlv
theorem joinC_flat (c:UInt8) (a:List UInt8) (l:List (List UInt8)):Sp.joinC c (a :: l) = a ++ l.flatMap (fun w => c :: w):=by
 induction l generalizing a with
 | nil => exact (List.append_nil a).symm
 | cons b l ih => rw [Sp.joinC_cons c _ _ (List.cons_ne_nil _ _),ih b,List.flatMap_cons]; rfl
theorem pcs_snoc (c x:UInt8) (l:List UInt8) (P:List (List UInt8)) (o:List UInt8) (h:Sp.pcs c l = P ++ [o]):Sp.pcs c (l ++ [x]) = if x = c then (P ++ [o]) ++ [[]] else P ++ [o ++ [x]]:=by
 induction l generalizing P o with
 | nil =>
   have h0:Sp.pcs c [] = [[]]:=rfl
   rw [h0] at h
   obtain ⟨rfl,rfl⟩:P = [] /\ o = []:=by
     cases P with
     | nil => simp at h; exact ⟨rfl,h⟩
     | cons y P => simp at h
   show Sp.pcs c [x] = _
   rw [Sp.pcs,h0]
   split <;> rfl
 | cons y l ih =>
   obtain ⟨Q,q,hq⟩:∃ Q q,Sp.pcs c l = Q ++ [q]:=by
     rcases List.eq_nil_or_concat (Sp.pcs c l) with h9 | ⟨Q,q,h9⟩
     · exact absurd h9 (Sp.pcs_ne c l)
     · exact ⟨Q,q,by rw [h9,List.concat_eq_append]⟩
   have h1:=ih Q q hq
   rw [Sp.pcs,hq] at h
   rw [List.cons_append,Sp.pcs,h1]
   by_cases hy:y = c
   · rw [if_pos hy] at h ⊢
     have h2:P ++ [o] = ([] :: Q) ++ [q]:=h.symm
     obtain ⟨rfl,h3⟩:=List.append_inj' h2 rfl
     cases h3
     by_cases hx:x = c <;> simp [hx]
   · rw [if_neg hy] at h ⊢
     cases Q with
     | nil =>
       have h2:P ++ [o] = [] ++ [y :: q]:=h.symm
       obtain ⟨rfl,h3⟩:=List.append_inj' h2 rfl
       cases h3
       by_cases hx:x = c <;> simp [hx]
     | cons z Q =>
       have h2:P ++ [o] = ((y :: z) :: Q) ++ [q]:=h.symm
       obtain ⟨rfl,h3⟩:=List.append_inj' h2 rfl
       cases h3
       by_cases hx:x = c <;> simp [hx]
def unNv (w:List UInt8):Int:=(unN w).getD 0
def rattF (w:List UInt8):A2:=(unNv ((Sp.pcs 61 w ++ [[]]).getD 0 []),Dig.unS ((Sp.pcs 61 w ++ [[]]).getD 1 []))
def rheadF (w:List UInt8):Hd:=(Dig.unS ((Sp.pcs 44 w.tail ++ [[],[],[]]).getD 0 []),Dig.unS ((Sp.pcs 44 w.tail ++ [[],[],[]]).getD 1 []),Dig.unS ((Sp.pcs 44 w.tail ++ [[],[],[]]).getD 2 []),Dig.unS ((Sp.pcs 44 w.tail ++ [[],[],[]]).getD 3 []))
def rst (p:List A2 × Hd) (w:List UInt8):List A2 × Hd:=if w.head? = some 64 then (p.1,rheadF w) else (p.1 ++ [rattF w],p.2)
def rcandW:List (List UInt8) -> Cd
 | w0 :: w1 :: ws => (namedV w0,Dig.unS w1,(ws.foldl rst ([],noH)).1,(ws.foldl rst ([],noH)).2)
 | [w0] => (namedV w0,⟨#[]⟩,[],noH)
 | [] => noCd
def rcandF (t:List UInt8):Cd:=rcandW (Sp.pcs 32 t)
theorem unS_hx (s:ByteArray):Dig.unS (hx s) = s:=ba_ext (unS_hex _)
theorem rattF_att (a:A2) (h:-9223372036854775808 <= a.1 /\ a.1 <= 9223372036854775807):rattF (attW a) = a:=by
 have e:Sp.pcs 61 (attW a) = [Dig.numS a.1,hx a.2]:=by
   unfold attW
   rw [Sp.pcs_cut 61 _ _ (num_61 a.1),Sp.pcs_one 61 _ (hex_61 a.2)]
 unfold rattF
 rw [e]
 show ((unN (Dig.numS a.1)).getD 0,Dig.unS (hx a.2)) = a
 rw [unN_num a.1 h,unS_hx]
 rfl
theorem rheadF_head (u m v e:ByteArray):rheadF (headW u m v e) = (u,m,v,e):=by
 have e1:Sp.pcs 44 (headW u m v e).tail = [hx u,hx m,hx v,hx e]:=head_pcs u m v e
 unfold rheadF
 rw [e1]
 show (Dig.unS (hx u),Dig.unS (hx m),Dig.unS (hx v),Dig.unS (hx e)) = _
 rw [unS_hx,unS_hx,unS_hx,unS_hx]
theorem fold_atts (L:List A2) (h:∀ a ∈ L,-9223372036854775808 <= a.1 /\ a.1 <= 9223372036854775807) (M:List A2) (H:Hd):(L.map attW).foldl rst (M,H) = (M ++ L,H):=by
 induction L generalizing M with
 | nil => rw [List.append_nil]; rfl
 | cons a L ih =>
   rw [List.map_cons,List.foldl_cons,show rst (M,H) (attW a) = (M ++ [a],H) by
     unfold rst
     rw [if_neg (att_head a),rattF_att a (h a (List.mem_cons_self ..))],ih (fun b hb => h b (List.mem_cons_of_mem _ hb)),List.append_assoc]
   rfl
theorem rcand_text {K:Int} {k:ByteArray} {L:List A2} (u m v e:ByteArray) (h:recE K k L = 0):rcandF (Sp.joinC 32 (wordsW K k L u m v e)) = (K,k,L,(u,m,v,e)):=by
 obtain ⟨hK,-,hL⟩:=rec_kind h
 unfold rcandF
 rw [words_split K k L u m v e hK]
 unfold wordsW
 by_cases hb:bareB u m v e = true
 · rw [if_pos hb,List.append_nil,rcandW,fold_atts L (tags_in hL),named_row K hK,unS_hx,bare_eq hb]
   rfl
 · rw [if_neg hb,rcandW,List.foldl_append,fold_atts L (tags_in hL),named_row K hK,unS_hx]
   show (K,k,(rst ([] ++ L,noH) (headW u m v e)).1,(rst ([] ++ L,noH) (headW u m v e)).2) = _
   unfold rst
   rw [if_pos (show (headW u m v e).head? = some 64 from rfl),rheadF_head]
   rfl
abbrev recC (c:Cd):Int:=recE c.1 c.2.1 c.2.2.1
theorem par_ref_yes (t:ByteArray) (h1:recC (rcandF t.data.toList) = 0) (h2:textC (rcandF t.data.toList) = t):parV t = (rcandF t.data.toList,0):=by
 have h3:=par_text (rcandF t.data.toList).2.2.2.1 (rcandF t.data.toList).2.2.2.2.1 (rcandF t.data.toList).2.2.2.2.2.1 (rcandF t.data.toList).2.2.2.2.2.2 h1
 unfold textC at h2
 rw [h2] at h3
 exact h3
theorem par_ref_no (t:ByteArray) (h:¬ (recC (rcandF t.data.toList) = 0 /\ textC (rcandF t.data.toList) = t)):parV t = (noCd,5):=by
 rcases par_no t with h0 | h0
 · exfalso
   obtain ⟨h1,h2⟩:=par_ok h0
   have h3:recC (parV t).1 = 0:=by
     by_cases h4:recC (parV t).1 = 0
     · exact h4
     · exfalso
       have h5:t = ⟨#[]⟩:=by
         rw [<- h1]
         unfold textC textV
         rw [if_neg h4]
       rw [h5] at h2
       cases h2
   have h6:=text_list (parV t).1.2.2.2.1 (parV t).1.2.2.2.2.1 (parV t).1.2.2.2.2.2.1 (parV t).1.2.2.2.2.2.2 h3
   have h7:=rcand_text (parV t).1.2.2.2.1 (parV t).1.2.2.2.2.1 (parV t).1.2.2.2.2.2.1 (parV t).1.2.2.2.2.2.2 h3
   have h8:textV (parV t).1.1 (parV t).1.2.1 (parV t).1.2.2.1 (parV t).1.2.2.2.1 (parV t).1.2.2.2.2.1 (parV t).1.2.2.2.2.2.1 (parV t).1.2.2.2.2.2.2 = t:=h1
   rw [h8] at h6
   rw [<- h6] at h7
   have h9:rcandF t.data.toList = (parV t).1:=h7
   exact h (by rw [h9]; exact ⟨h3,h1⟩)
 · exact h0
theorem pcs_le (c:UInt8) (l x:List UInt8) (h:x ∈ Sp.pcs c l):x.length <= l.length:=by
 have h1:∀ (L:List (List UInt8)),x ∈ L -> x.length <= (Sp.joinC c L).length:=by
   intro L
   induction L with
   | nil => intro h; cases h
   | cons a L ih =>
     intro hx
     rw [joinC_flat,List.length_append]
     rcases List.mem_cons.1 hx with rfl | hx
     · omega
     · cases L with
       | nil => cases hx
       | cons b L =>
         have h2:=ih hx
         rw [joinC_flat,List.length_append] at h2
         rw [List.flatMap_cons,List.length_append,List.length_cons]
         omega
 have h2:=h1 _ h
 rwa [Sp.join_pcs] at h2
end Rcd
namespace Rcd
open Att Kind Rec Atf Rw Flt Tlv
theorem byte_cut (t:ByteArray) (k:Nat) (h:k < t.size):t.extract k (k + 1) = bs [t[k]]:=by
 apply ba_ext
 rw [ByteArray.data_extract,Array.toList_extract,list_bs]
 unfold List.extract
 rw [show k + 1 - k = 1 by omega,List.take_one,List.head?_drop,List.getElem?_eq_getElem (by simpa using h)]
 rfl
theorem take_byte (t:ByteArray) (k:Nat) (h:k < t.size):t.data.toList.take (k + 1) = t.data.toList.take k ++ [t[k]]:=by
 rw [List.take_succ_eq_append_getElem (by simpa using h)]
 rfl
set_option maxHeartbeats 4000000 in
theorem parted_mk (t:ByteArray) (c:UInt8) (hm:t.size <= 100000) (w:World):Calls Tryz.prog 49 #[.string t,.int .u8 (c.toNat:Int)] w fun e w' => ∃ v L,e = .returned v /\ SRow w w' v L /\ L.map (·.data.toList) = Sp.pcs c t.data.toList /\ (∀ x ∈ L,x.size <= t.size) /\ Since w w':=by
 have HM:=lH hm
 obtain ⟨n,hn⟩:∃ n,n = t.size:=⟨_,rfl⟩
 have HN:=lH hn
 have HZ:Hid (∀ L:List ByteArray,L.map (·.data.toList) = Sp.pcs c t.data.toList -> ∀ x ∈ L,x.size <= t.size):=lH fun L hL x hx => pcs_le c t.data.toList x.data.toList (by rw [<- hL]; exact List.mem_map.2 ⟨x,hx,rfl⟩)
 clear hm hn
 go_enter Tryz.func49,Tryz.ntmps49
 go_wp2_with fail
 go_loopw [5,6,7] (fun V o i wr => ∃ (k:Nat) (P:List ByteArray) (S:ByteArray),k <= t.size /\ i = .int .i64 (k:Int) /\ o = .string S /\ Hid (Sp.pcs c (t.data.toList.take k) = P.map (·.data.toList) ++ [S.data.toList]) /\ Hid (P.length <= k) /\ Hid (S.size <= k) /\ Hid (SRow w wr V P) /\ Hid (Since w wr)) (fun _ _ i _ => t.size - (intOf i).toNat)
 case atStart => exact ⟨0,[],⟨#[]⟩,Nat.zero_le _,rfl,rfl,lH rfl,lH (Nat.le_refl _),lH (Nat.le_refl _),lH (SRow.nil _ _),lH (Since.refl w)⟩
 case round =>
   obtain ⟨k,P,S,hk,rfl,rfl,HP,HL,HB,HR,HS⟩:=hrel
   obtain ⟨VA,vc,rfl,-⟩:=HR.out.val
   by_cases hlt:k < t.size
   · have HTB:=lH (take_byte t k hlt)
     have HBC:=lH (byte_cut t k hlt)
     have i1:(0:Int) <= (k:Int):=by omega
     have i2:(k:Int) < (t.size:Int):=by omega
     have e1:IntKind.i64.wrap ((k:Int) + 1) = ((k + 1:Nat):Int):=by rw [IntWalk.i64_in _ (by have:=HM.out; omega)]; omega
     have HSN:=lH (pcs_snoc c t[k] (t.data.toList.take k) _ _ HP.out)
     by_cases hc:t[k] = c
     · have t1:((t[k].toNat:Int) == (c.toNat:Int)) = true:=by rw [hc]; exact beq_self_eq_true _
       have HP2:Hid (Sp.pcs c (t.data.toList.take (k + 1)) = (P ++ [S]).map (·.data.toList) ++ [(⟨#[]⟩:ByteArray).data.toList]):=lH (by
         rw [HTB.out,HSN.out,if_pos hc,List.map_append]
         rfl)
       have HB1:=lH (show P.length + 1 <= maxLen by have:=HL.out; have:=HM.out; unfold maxLen; omega)
       have HB2:=lH (show (P.length + 1) * 16 <= 140737488355328 by have:=HL.out; have:=HM.out; omega)
       clear hc HBC
       go_wp2_with (at_builtin; refine app_rows elemS rfl _ _ (by rfl) w wr _ rfl [] [] _ P.length _ (by rfl) HR.out HS.out #[.string S] 1 1 (by rfl) rfl (s_one S) HB1.out HB2.out ?_; intro V2 w4 HQ2 HT2 _)
       have HF:Hid (SRow w w4 V2 (P ++ [S])):=lH (SRow.app S HQ2)
       have HS4:=lH HT2
       clear HQ2 HT2
       go_wp2_with fail
       go_roundw
       case rel => exact ⟨k + 1,P ++ [S],⟨#[]⟩,hlt,by go_num,rfl,HP2,lH (by rw [List.length_append]; exact Nat.succ_le_succ HL.out),lH (Nat.zero_le _),HF,HS4⟩
       case measure => (simp [intOf] <;> omega)
     · have t1:((t[k].toNat:Int) == (c.toNat:Int)) = false:=beq_eq_false_iff_ne.2 (fun h => hc (UInt8.toNat_inj.1 (by omega)))
       have HZ1:Hid ((S ++ t.extract k (k + 1)).size = S.size + 1):=lH (by
         have h8:=congrArg List.length (app_list S (t.extract k (k + 1)))
         rw [HBC.out,List.length_append,list_bs] at h8
         rw [HBC.out]
         exact h8)
       have HP2:Hid (Sp.pcs c (t.data.toList.take (k + 1)) = P.map (·.data.toList) ++ [(S ++ t.extract k (k + 1)).data.toList]):=lH (by
         rw [HTB.out,HSN.out,if_neg hc,app_list,HBC.out,list_bs])
       have z1:¬ 9223372036854775807 < S.size + (t.extract k (k + 1)).size:=by
         rw [HBC.out,size_bs]
         have:=HB.out
         have:=HM.out
         show ¬ 9223372036854775807 < S.size + 1
         omega
       have n1:((k + 1:Nat):Int).toNat = k + 1:=by omega
       have z2:((k + 1:Nat):Int) <= (t.size:Int):=by omega
       have z3:(k:Int) <= ((k + 1:Nat):Int):=by omega
       have z4:(0:Int) <= ((k + 1:Nat):Int):=by omega
       clear hc HBC
       go_wp2_with fail
       go_roundw
       case rel => exact ⟨k + 1,P,S ++ t.extract k (k + 1),hlt,by go_num,rfl,HP2,lH (Nat.le_succ_of_le HL.out),lH (by rw [HZ1.out]; exact Nat.succ_le_succ HB.out),HR,HS⟩
       case measure => (simp [intOf] <;> omega)
   · obtain rfl:k = t.size:=by omega
     have HB1:=lH (show P.length + 1 <= maxLen by have:=HL.out; have:=HM.out; unfold maxLen; omega)
     have HB2:=lH (show (P.length + 1) * 16 <= 140737488355328 by have:=HL.out; have:=HM.out; omega)
     have HE:Hid ((P ++ [S]).map (·.data.toList) = Sp.pcs c t.data.toList):=lH (by
       have h9:=HP.out
       rw [List.take_of_length_le (by simp)] at h9
       rw [h9,List.map_append]
       rfl)
     have HE2:=lH (HZ.out _ HE.out)
     clear HZ
     go_wp2_with (at_builtin; refine app_rows elemS rfl _ _ (by rfl) w wr _ rfl [] [] _ P.length _ (by rfl) HR.out HS.out #[.string S] 1 1 (by rfl) rfl (s_one S) HB1.out HB2.out ?_; intro V2 w4 HQ2 HT2 _)
     have HF:Hid (SRow w w4 V2 (P ++ [S])):=lH (SRow.app S HQ2)
     have HS4:=lH HT2
     clear HQ2 HT2
     go_wp2_with fail
     go_ret
     exact ⟨_,rfl,P ++ [S],HF.out,HE.out,HE2.out,HS4.out⟩
end Rcd
namespace Rcd
open Att Kind Rec Atf Rw Flt Tlv
def prefT (K:Int) (k:ByteArray) (L:List A2):ByteArray:=bs ((rowOf K).1 ++ 32 :: hx k ++ L.flatMap fun a => 32 :: attW a)
theorem pref_text {K:Int} {k:ByteArray} {L:List A2} (u m v e:ByteArray) (h:recE K k L = 0):textV K k L u m v e = if bareB u m v e = true then prefT K k L else bs ((prefT K k L).data.toList ++ 32 :: headW u m v e):=by
 unfold textV prefT wordsW
 rw [if_pos h,joinC_flat,List.flatMap_cons,List.flatMap_append,List.flatMap_map,list_bs]
 by_cases hb:bareB u m v e = true
 · rw [if_pos hb,if_pos hb]
   apply congrArg bs
   simp
 · rw [if_neg hb,if_neg hb]
   apply congrArg bs
   simp
theorem pref_snoc (K:Int) (k:ByteArray) (L:List A2) (j:Nat) (a:A2) (h:L[j]? = some a):prefT K k (L.take (j + 1)) = prefT K k (L.take j) ++ ⟨#[32]⟩ ++ bs (Dig.numS a.1) ++ ⟨#[61]⟩ ++ bs (hx a.2):=by
 apply ba_ext
 rw [app_list,app_list,app_list,app_list]
 unfold prefT
 rw [Att.take_snoc L j a h,List.flatMap_append,list_bs,list_bs,list_bs,list_bs]
 show _ = _ ++ [32] ++ _ ++ [61] ++ _
 simp [attW]
theorem num_len (n:Int):(bs (Dig.numS n)).size <= 21:=by
 rw [size_bs]
 have h3:=digs_len 20 n.natAbs
 unfold Dig.numS
 split
 · rw [List.length_cons]; omega
 · omega
theorem pref_size (K:Int) (k:ByteArray) (L:List A2) (hk:k.size <= 100000) (hL:∀ a ∈ L,numOk a):(prefT K k L).size <= 300000 + 300000 * L.length:=by
 have h1:(prefT K k L).size = ((rowOf K).1 ++ 32 :: hx k ++ L.flatMap fun a => 32 :: attW a).length:=by unfold prefT; rw [size_bs]
 have h2:=name_size K
 rw [size_bs] at h2
 have h3:=hex_size k
 rw [size_bs] at h3
 have h4:(L.flatMap fun a => 32 :: attW a).length <= 300000 * L.length:=by
   clear h1
   induction L with
   | nil => exact Nat.zero_le _
   | cons a L ih =>
     have h5:=ih (fun b hb => hL b (List.mem_cons_of_mem _ hb))
     have h6:=num_len a.1
     rw [size_bs] at h6
     have h7:=hex_size a.2
     rw [size_bs] at h7
     have h8:=(hL a (List.mem_cons_self ..)).2
     have h9:(attW a).length = (Dig.numS a.1).length + ((hx a.2).length + 1):=by unfold attW; rw [List.length_append,List.length_cons]
     rw [List.flatMap_cons,List.length_append,List.length_cons,List.length_cons,h9]
     omega
 rw [h1,List.length_append,List.length_append,List.length_cons]
 omega
set_option maxHeartbeats 8000000 in
theorem rtext_no (K:Int) (k u m v e:ByteArray) (L:List A2) (E:Int) (hE:(E != 0) = true) (c1:RdR 52 L (fun x => #[rv K k u m v e x]) (.int .i64 E)):RdR 53 L (fun x => #[rv K k u m v e x]) (.string ⟨#[]⟩):=by
 intro w x hT hx
 obtain ⟨A,q,rfl,hq1,hq2⟩:=hx.slice
 have hp:=lH (hb_new w Tab2 hT #[.int .i64 K,.string k,.slice A L.length q,.string u,.string m,.string v,.string e] 60)
 have HX:=lH (hx.since hp.out.since)
 have HS:=lH hp.out.since
 obtain ⟨_,m0,m1,m2,m3,m4,m5,m6⟩:=hb7 hp
 clear hx hT
 go_enter Tryz.func53,Tryz.ntmps53
 go_wp2_with fail
 clear m0 m1 m2 m3 m4 m5 m6
 refine (c1.calls0 hp.out.tabs HX.out) ?_
 intro w1 h1
 replace hp:=lH (hp.out.step (Up.up h1))
 replace HX:=lH (HX.out.since (Up.up h1))
 replace HS:=lH (HS.out.step (Up.up h1))
 clear h1
 go_wp2_with fail
 go_ret
 exact ⟨rfl,HS.out⟩
theorem cat_ex (a b:ByteArray) (N:Nat) (h:a.size + b.size <= N):∃ c,a ++ b = c /\ c.size <= N:=⟨_,rfl,by rw [ByteArray.size_append]; exact h⟩
set_option maxHeartbeats 16000000 in
theorem rtext_yes (K:Int) (k u m v e:ByteArray) (L:List A2) (c1:RdR 52 L (fun x => #[rv K k u m v e x]) (.int .i64 0)) (hL:∀ a ∈ L,numOk a) (hn:L.length <= 100) (hk:k.size <= 100000) (b9:Bool) (c4:RdR 78 L (fun x => #[rv K k u m v e x]) (.bool b9))
   (hu hm hv he nm hkk:ByteArray) (zu:hu.size <= 100000) (zm:hm.size <= 100000) (zv:hv.size <= 100000) (ze:he.size <= 100000) (zn:nm.size <= 1000) (zk:hkk.size <= 200000)
   (c2:Mak 50 #[.int .i64 K] (.string nm)) (c3:Mak 48 #[.string k] (.string hkk)) (c5:Mak 48 #[.string u] (.string hu)) (c6:Mak 48 #[.string m] (.string hm)) (c7:Mak 48 #[.string v] (.string hv)) (c8:Mak 48 #[.string e] (.string he))
   (h0:nm ++ ⟨#[32]⟩ ++ hkk = prefT K k []) (X:ByteArray) (hX:X = if b9 = true then prefT K k L else prefT K k L ++ ⟨#[32,64]⟩ ++ hu ++ ⟨#[44]⟩ ++ hm ++ ⟨#[44]⟩ ++ hv ++ ⟨#[44]⟩ ++ he):RdR 53 L (fun x => #[rv K k u m v e x]) (.string X):=by
 have HL:=lH hL
 have HX9:=lH hX
 have H0:=lH h0
 have HN:=lH hn
 have HK:=lH hk
 have HSZ:=lH (fun j => pref_size K k (L.take j) hk (fun a ha => hL a (List.mem_of_mem_take ha)))
 have HSS:=lH (fun j a h => pref_snoc K k L j a h)
 have HCN:Hid (∀ a ∈ L,Mak 75 #[.int .i64 a.1] (.string (bs (Dig.numS a.1))) /\ Mak 48 #[.string a.2] (.string (bs (hx a.2))) /\ (bs (Dig.numS a.1)).size <= 21 /\ (bs (hx a.2)).size <= 200000):=lH fun a ha => ⟨RefDig.num_any a.1 (hL a ha).1 _ rfl,fun W => RefDig.hex_any a.2 W (by have:=(hL a ha).2; omega) _ rfl,num_len a.1,by rw [hex_size]; have:=(hL a ha).2; omega⟩
 clear hL hX h0 hk hn
 intro w x hT hx
 obtain ⟨A,q,rfl,hq1,hq2⟩:=hx.slice
 obtain ⟨n,hn⟩:∃ n,n = L.length:=⟨_,rfl⟩
 have HNN:=lH hn
 have hnb:n <= 100:=by rw [hn]; exact HN.out
 rw [<- hn] at hx ⊢
 have hp:=lH (hb_new w Tab2 hT #[.int .i64 K,.string k,.slice A n q,.string u,.string m,.string v,.string e] 60)
 have HX:=lH (hx.since hp.out.since)
 have HS:=lH hp.out.since
 obtain ⟨_,m0,m1,m2,m3,m4,m5,m6⟩:=hb7 hp
 clear hx hT hq1 hq2 hn
 go_enter Tryz.func53,Tryz.ntmps53
 go_wp2_with fail
 clear m0 m1 m2 m3 m4 m5 m6
 refine c1.calls0 hp.out.tabs (by rw [HNN.out] at HX ⊢; exact HX.out) ?_
 intro w1 hq
 replace hp:=lH (hp.out.step hq)
 replace HX:=lH (HX.out.since hq)
 replace HS:=lH (HS.out.step hq)
 clear hq
 go_upto_region 3 with fail
 obtain ⟨_,m0,m1,-,-,-,-,-⟩:=hb7 hp
 have hHeld:=And.intro m0 m1
 clear m0 m1
 have hq:=Since.drew (Since.refl w1)
 replace hp:=lH (hp.out.step hq)
 replace HX:=lH (HX.out.since hq)
 replace HS:=lH (HS.out.step hq)
 replace hHeld:=And.intro ((Below.cell hq (p:=⟨w.heap.size,0,none⟩) (lt_cell hHeld.1)).trans hHeld.1) ((Below.cell hq (p:=⟨w.heap.size,1,none⟩) (lt_cell hHeld.2)).trans hHeld.2)
 have z1:¬ 9223372036854775807 < nm.size + 1:=by omega
 obtain ⟨S1,a1,y1⟩:=cat_ex nm ⟨#[32]⟩ 1001 (by show nm.size + 1 <= 1001; omega)
 obtain ⟨S2,a2,y2⟩:=cat_ex S1 hkk 300000 (by omega)
 have z2:¬ 9223372036854775807 < S1.size + hkk.size:=by omega
 have HS2:Hid (S2 = prefT K k (L.take 0)):=lH (by rw [List.take_zero,<- H0.out,a1,a2])
 refine RegW.start (fun W' => W'.cell? ⟨w.heap.size,0,none⟩ = some (.int .i64 K) /\ W'.cell? ⟨w.heap.size,1,none⟩ = some (.string k)) 8 (by kernel_rfl) hHeld (fun _ => ?_)
 generalize w1.drew = wa at hp HX HS hHeld ⊢
 clear hq
 refine RegW.tk 0 rfl ?_
 try simp only [RegW.p]
 refine RegW.tk 1 rfl ?_
 try simp only [RegW.p]
 refine RegW.tk 4 rfl ?_
 try simp only [RegW.p]
 refine RegW.tk 5 rfl ?_
 try simp only [RegW.p]
 refine RegW.only (i:=2) rfl (by kernel_rfl) (fun K9 hK => ?_)
 go_simp
 refine c2.calls0 ?_
 intro wb hq
 replace hp:=lH (hp.out.step hq)
 replace HX:=lH (HX.out.since hq)
 replace HS:=lH (HS.out.step hq)
 replace hHeld:=And.intro ((Below.cell hq (p:=⟨w.heap.size,0,none⟩) (lt_cell hHeld.1)).trans hHeld.1) ((Below.cell hq (p:=⟨w.heap.size,1,none⟩) (lt_cell hHeld.2)).trans hHeld.2)
 clear hq
 refine hK.out _ _ hHeld (fun _ => ?_)
 clear hK K9
 try simp only [RegW.p]
 refine RegW.tk (v:=.string S1) 3 rfl ?_
 try simp only [RegW.p]
 refine RegW.only (i:=6) rfl (by kernel_rfl) (fun K9 hK => ?_)
 go_simp
 refine c3.calls0 ?_
 intro wb hq
 replace hp:=lH (hp.out.step hq)
 replace HX:=lH (HX.out.since hq)
 replace HS:=lH (HS.out.step hq)
 replace hHeld:=And.intro ((Below.cell hq (p:=⟨w.heap.size,0,none⟩) (lt_cell hHeld.1)).trans hHeld.1) ((Below.cell hq (p:=⟨w.heap.size,1,none⟩) (lt_cell hHeld.2)).trans hHeld.2)
 clear hq
 refine hK.out _ _ hHeld (fun _ => ?_)
 clear hK K9
 try simp only [RegW.p]
 refine RegW.tk (v:=.string S2) 7 rfl ?_
 try simp only [RegW.p]
 refine RegW.last rfl (by kernel_rfl) (by kernel_rfl) ?_
 clear hHeld a1 a2 z1 z2 y1 y2
 go_wp2_with fail
 go_loopw [3,4] (fun s i wr => ∃ (j:Nat) (S:ByteArray),j <= n /\ i = .int .i64 (j:Int) /\ s = .string S /\ Hid (S = prefT K k (L.take j)) /\ Hid (HB w Tab2 w.heap.size #[.int .i64 K,.string k,.slice A n q,.string u,.string m,.string v,.string e] wr) /\ Hid (AttsS wr (.slice A n q) L) /\ Hid (Since w wr)) (fun _ i _ => n - (intOf i).toNat)
 case atStart => exact ⟨0,S2,Nat.zero_le _,rfl,rfl,HS2,hp,HX,HS⟩
 case round =>
   clear hp HX HS HS2
   obtain ⟨j,S,hj,rfl,rfl,HSP,hp,HX,HS⟩:=hrel
   have HJ:Hid (S.size <= 300000 + 300000 * 100):=lH (by
     have h1:=HSZ.out j
     rw [<- HSP.out,List.length_take] at h1
     have h2:=HN.out
     have h3:min j L.length <= 100:=by omega
     have h4:300000 * min j L.length <= 300000 * 100:=Nat.mul_le_mul_left _ h3
     omega)
   by_cases hlt:j < n
   · obtain ⟨⟨t,y⟩,hs⟩:∃ s,L[j]? = some s:=⟨_,List.getElem?_eq_getElem (by rw [<- HNN.out]; exact hlt)⟩
     obtain ⟨b,o,c9,hv',f1,f2,f3,f4⟩:=AttsS.form HX.out (by rw [<- HNN.out]; omega)
     obtain ⟨rfl,-,rfl⟩:=Value.slice.inj hv'
     obtain ⟨_,-,-,m2,-,-,-,-⟩:=hb7 hp
     have i1:(0:Int) <= (j:Int):=by omega
     have i2:(j:Int) < (n:Int):=by omega
     obtain ⟨d1,d2,d3,d4⟩:=HCN.out (t,y) (List.mem_of_getElem? hs)
     dsimp only at d1 d2 d3 d4
     have HNX:=lH (HSS.out j _ hs)
     dsimp only at HNX
     obtain ⟨N1,hN1⟩:∃ N1,N1 = bs (Dig.numS t):=⟨_,rfl⟩
     obtain ⟨N2,hN2⟩:∃ N2,N2 = bs (hx y):=⟨_,rfl⟩
     rw [<- hN1] at d1 d3 HNX
     rw [<- hN2] at d2 d4 HNX
     have hJ:=HJ.out
     obtain ⟨S1,a1,y1⟩:=cat_ex S ⟨#[32]⟩ 40000000 (by show S.size + 1 <= 40000000; omega)
     obtain ⟨S2,a2,y2⟩:=cat_ex S1 N1 50000000 (by omega)
     obtain ⟨S3,a3,y3⟩:=cat_ex S2 ⟨#[61]⟩ 60000000 (by show S2.size + 1 <= 60000000; omega)
     obtain ⟨S4,a4,y4⟩:=cat_ex S3 N2 70000000 (by omega)
     have HE:Hid (S4 = prefT K k (L.take (j + 1))):=lH (by rw [HNX.out,<- HSP.out,a1,a2,a3,a4])
     have z1:¬ 9223372036854775807 < S.size + 1:=by omega
     have z2:¬ 9223372036854775807 < S1.size + N1.size:=by omega
     have z3:¬ 9223372036854775807 < S2.size + 1:=by omega
     have z4:¬ 9223372036854775807 < S3.size + N2.size:=by omega
     have hHeld:=And.intro m2 (And.intro (f4 j _ hs).1 (f4 j _ hs).2)
     dsimp only at hHeld
     clear hN1 hN2 hJ d3 d4 y1 y2 y3 y4 f1 f2 f3 f4 hs hv' HNX HSP HJ
     go_upto_region 7 with fail
     clear m2
     have hq:=Since.drew (Since.refl wr)
     replace hp:=lH (hp.out.step hq)
     replace HX:=lH (HX.out.since hq)
     replace HS:=lH (HS.out.step hq)
     replace hHeld:=And.intro ((Below.cell hq (p:=⟨w.heap.size,2,none⟩) (lt_cell hHeld.1)).trans hHeld.1) (And.intro ((Below.cell hq (p:=⟨b,o + j * 2,none⟩) (lt_cell hHeld.2.1)).trans hHeld.2.1) ((Below.cell hq (p:=⟨b,o + j * 2 + 1,none⟩) (lt_cell hHeld.2.2)).trans hHeld.2.2))
     refine RegW.start (fun W' => W'.cell? ⟨w.heap.size,2,none⟩ = some (.slice (some ⟨b,o,none⟩) n q) /\ W'.cell? ⟨b,o + j * 2,none⟩ = some (.int .i64 t) /\ W'.cell? ⟨b,o + j * 2 + 1,none⟩ = some (.string y)) 19 (by kernel_rfl) hHeld (fun _ => ?_)
     generalize wr.drew = wa at hp HX HS hHeld ⊢
     clear hq
     refine RegW.tk 0 rfl ?_
     try simp only [RegW.p]
     refine RegW.tk (v:=.string S1) 1 rfl ?_
     try simp only [RegW.p]
     refine RegW.tk 2 rfl ?_
     try simp only [RegW.p]
     refine RegW.tk 3 rfl ?_
     try simp only [RegW.p]
     refine RegW.tk 4 rfl ?_
     try simp only [RegW.p]
     refine RegW.tk 5 rfl ?_
     try simp only [RegW.p]
     refine RegW.tk 6 rfl ?_
     try simp only [RegW.p]
     refine RegW.tk 7 rfl ?_
     try simp only [RegW.p]
     refine RegW.tk 11 rfl ?_
     try simp only [RegW.p]
     refine RegW.tk 12 rfl ?_
     try simp only [RegW.p]
     refine RegW.tk 13 rfl ?_
     try simp only [RegW.p]
     refine RegW.tk 14 rfl ?_
     try simp only [RegW.p]
     refine RegW.tk 15 rfl ?_
     try simp only [RegW.p]
     refine RegW.tk 16 rfl ?_
     try simp only [RegW.p]
     refine RegW.only (i:=8) rfl (by kernel_rfl) (fun K9 hK => ?_)
     go_simp
     refine d1.calls0 ?_
     intro wb hq
     replace hp:=lH (hp.out.step hq)
     replace HX:=lH (HX.out.since hq)
     replace HS:=lH (HS.out.step hq)
     replace hHeld:=And.intro ((Below.cell hq (p:=⟨w.heap.size,2,none⟩) (lt_cell hHeld.1)).trans hHeld.1) (And.intro ((Below.cell hq (p:=⟨b,o + j * 2,none⟩) (lt_cell hHeld.2.1)).trans hHeld.2.1) ((Below.cell hq (p:=⟨b,o + j * 2 + 1,none⟩) (lt_cell hHeld.2.2)).trans hHeld.2.2))
     clear hq
     refine hK.out _ _ hHeld (fun _ => ?_)
     clear hK K9
     try simp only [RegW.p]
     refine RegW.tk (v:=.string S2) 9 rfl ?_
     try simp only [RegW.p]
     refine RegW.tk (v:=.string S3) 10 rfl ?_
     try simp only [RegW.p]
     refine RegW.only (i:=17) rfl (by kernel_rfl) (fun K9 hK => ?_)
     go_simp
     refine d2.calls0 ?_
     intro wb hq
     replace hp:=lH (hp.out.step hq)
     replace HX:=lH (HX.out.since hq)
     replace HS:=lH (HS.out.step hq)
     replace hHeld:=And.intro ((Below.cell hq (p:=⟨w.heap.size,2,none⟩) (lt_cell hHeld.1)).trans hHeld.1) (And.intro ((Below.cell hq (p:=⟨b,o + j * 2,none⟩) (lt_cell hHeld.2.1)).trans hHeld.2.1) ((Below.cell hq (p:=⟨b,o + j * 2 + 1,none⟩) (lt_cell hHeld.2.2)).trans hHeld.2.2))
     clear hq
     refine hK.out _ _ hHeld (fun _ => ?_)
     clear hK K9
     try simp only [RegW.p]
     refine RegW.tk (v:=.string S4) 18 rfl ?_
     try simp only [RegW.p]
     refine RegW.last rfl (by kernel_rfl) (by kernel_rfl) ?_
     clear hHeld a1 a2 a3 a4 z1 z2 z3 z4
     go_wp2_with fail
     go_roundw
     case rel => exact ⟨j + 1,S4,hlt,by go_num,rfl,HE,hp,HX,HS⟩
     case measure => (simp [intOf] <;> omega)
   · obtain rfl:n = j:=by omega
     have HSF:Hid (S = prefT K k L):=lH (by have h9:=HSP.out; rw [HNN.out,List.take_length] at h9; exact h9)
     obtain ⟨_,m0,m1,m2,m3,m4,m5,m6⟩:=hb7 hp
     clear HSP
     go_wp2_with fail
     refine c4.calls0 hp.out.tabs (by rw [HNN.out] at HX ⊢; exact HX.out) ?_
     intro w2 hq
     replace hp:=lH (hp.out.step hq)
     replace HX:=lH (HX.out.since hq)
     replace HS:=lH (HS.out.step hq)
     clear hq m0 m1 m2 m3 m4 m5 m6
     cases b9 with
     | true =>
       have HF:Hid (X = S):=lH (by rw [HX9.out,if_pos rfl,HSF.out])
       go_wp2_with fail
       go_ret
       rw [HF.out]
       exact ⟨rfl,HS.out⟩
     | false =>
       have hJ:=HJ.out
       obtain ⟨S1,a1,y1⟩:=cat_ex S ⟨#[32,64]⟩ 40000000 (by show S.size + 2 <= 40000000; omega)
       obtain ⟨S2,a2,y2⟩:=cat_ex S1 hu 50000000 (by omega)
       obtain ⟨S3,a3,y3⟩:=cat_ex S2 ⟨#[44]⟩ 60000000 (by show S2.size + 1 <= 60000000; omega)
       obtain ⟨S4,a4,y4⟩:=cat_ex S3 hm 70000000 (by omega)
       obtain ⟨S5,a5,y5⟩:=cat_ex S4 ⟨#[44]⟩ 80000000 (by show S4.size + 1 <= 80000000; omega)
       obtain ⟨S6,a6,y6⟩:=cat_ex S5 hv 90000000 (by omega)
       obtain ⟨S7,a7,y7⟩:=cat_ex S6 ⟨#[44]⟩ 100000000 (by show S6.size + 1 <= 100000000; omega)
       obtain ⟨S8,a8,y8⟩:=cat_ex S7 he 110000000 (by omega)
       have HF:Hid (X = S8):=lH (by rw [HX9.out,if_neg (by decide),<- HSF.out,a1,a2,a3,a4,a5,a6,a7,a8])
       have z1:¬ 9223372036854775807 < S.size + 2:=by omega
       have z2:¬ 9223372036854775807 < S1.size + hu.size:=by omega
       have z3:¬ 9223372036854775807 < S2.size + 1:=by omega
       have z4:¬ 9223372036854775807 < S3.size + hm.size:=by omega
       have z5:¬ 9223372036854775807 < S4.size + 1:=by omega
       have z6:¬ 9223372036854775807 < S5.size + hv.size:=by omega
       have z7:¬ 9223372036854775807 < S6.size + 1:=by omega
       have z8:¬ 9223372036854775807 < S7.size + he.size:=by omega
       obtain ⟨_,-,-,-,m3,m4,m5,m6⟩:=hb7 hp
       have r1:(w2.alloc (.cells #[.string ⟨#[]⟩,.string ⟨#[]⟩,.string ⟨#[]⟩,.string ⟨#[]⟩] 58)).heap[w2.heap.size]? = some (.cells #[.string ⟨#[]⟩,.string ⟨#[]⟩,.string ⟨#[]⟩,.string ⟨#[]⟩] 58 (0,0)):=heap_alloc_new w2 _
       have hq:=below_setRow ((Since.refl w2).alloc (.cells #[.string ⟨#[]⟩,.string ⟨#[]⟩,.string ⟨#[]⟩,.string ⟨#[]⟩] 58)) (Nat.le_refl _) (#[.string u,.string m,.string v,.string e]:Array Value)
       have hi:HR w2 w2.heap.size #[.string u,.string m,.string v,.string e] 58 ((w2.alloc (.cells #[.string ⟨#[]⟩,.string ⟨#[]⟩,.string ⟨#[]⟩,.string ⟨#[]⟩] 58)).setRow w2.heap.size #[.string u,.string m,.string v,.string e]):=⟨setRow_heap _ _ _ _ _ _ r1⟩
       replace hp:=lH (hp.out.step hq)
       replace HX:=lH (HX.out.since hq)
       replace HS:=lH (HS.out.step hq)
       have hHeld:=And.intro (hr_cell hi 0 _ rfl) (And.intro (hr_cell hi 1 _ rfl) (And.intro (hr_cell hi 2 _ rfl) (hr_cell hi 3 _ rfl)))
       clear hq hi hJ y1 y2 y3 y4 y5 y6 y7 y8 HSF
       go_upto_region 10 with (refine RwL.at_store (ty:=58) rfl ?_; refine wpList_store_row rfl 58 _ _ rfl w2.heap.size #[.string u,.string m,.string v,.string e] (by rfl) (by rfl) _ _ r1 (h4_info _ _ _ _) rfl (h4_one _ _ _ _) ?_; generalize (w2.alloc (.cells #[.string ⟨#[]⟩,.string ⟨#[]⟩,.string ⟨#[]⟩,.string ⟨#[]⟩] 58)).setRow w2.heap.size #[.string u,.string m,.string v,.string e] = w3 at hp HX HS hHeld ⊢; clear r1 m3 m4 m5 m6)
       obtain ⟨G,hG⟩:∃ G,w2.heap.size = G:=⟨_,rfl⟩
       rw [hG] at hHeld ⊢
       clear hG
       have hq:=Since.drew (Since.refl w3)
       replace hp:=lH (hp.out.step hq)
       replace HX:=lH (HX.out.since hq)
       replace HS:=lH (HS.out.step hq)
       replace hHeld:=And.intro ((Below.cell hq (p:=⟨G,0,none⟩) (lt_cell hHeld.1)).trans hHeld.1) (And.intro ((Below.cell hq (p:=⟨G,1,none⟩) (lt_cell hHeld.2.1)).trans hHeld.2.1) (And.intro ((Below.cell hq (p:=⟨G,2,none⟩) (lt_cell hHeld.2.2.1)).trans hHeld.2.2.1) ((Below.cell hq (p:=⟨G,3,none⟩) (lt_cell hHeld.2.2.2)).trans hHeld.2.2.2)))
       refine RegW.start (fun W' => W'.cell? ⟨G,0,none⟩ = some (.string u) /\ W'.cell? ⟨G,1,none⟩ = some (.string m) /\ W'.cell? ⟨G,2,none⟩ = some (.string v) /\ W'.cell? ⟨G,3,none⟩ = some (.string e)) 21 (by kernel_rfl) hHeld (fun _ => ?_)
       generalize w3.drew = wa at hp HX HS hHeld ⊢
       clear hq
       refine RegW.tk 0 rfl ?_
       try simp only [RegW.p]
       refine RegW.tk (v:=.string S1) 1 rfl ?_
       try simp only [RegW.p]
       refine RegW.tk 2 rfl ?_
       try simp only [RegW.p]
       refine RegW.tk 3 rfl ?_
       try simp only [RegW.p]
       refine RegW.tk 7 rfl ?_
       try simp only [RegW.p]
       refine RegW.tk 8 rfl ?_
       try simp only [RegW.p]
       refine RegW.tk 12 rfl ?_
       try simp only [RegW.p]
       refine RegW.tk 13 rfl ?_
       try simp only [RegW.p]
       refine RegW.tk 17 rfl ?_
       try simp only [RegW.p]
       refine RegW.tk 18 rfl ?_
       try simp only [RegW.p]
       refine RegW.only (i:=4) rfl (by kernel_rfl) (fun K9 hK => ?_)
       go_simp
       refine c5.calls0 ?_
       intro wb hq
       replace hp:=lH (hp.out.step hq)
       replace HX:=lH (HX.out.since hq)
       replace HS:=lH (HS.out.step hq)
       replace hHeld:=And.intro ((Below.cell hq (p:=⟨G,0,none⟩) (lt_cell hHeld.1)).trans hHeld.1) (And.intro ((Below.cell hq (p:=⟨G,1,none⟩) (lt_cell hHeld.2.1)).trans hHeld.2.1) (And.intro ((Below.cell hq (p:=⟨G,2,none⟩) (lt_cell hHeld.2.2.1)).trans hHeld.2.2.1) ((Below.cell hq (p:=⟨G,3,none⟩) (lt_cell hHeld.2.2.2)).trans hHeld.2.2.2)))
       clear hq
       refine hK.out _ _ hHeld (fun _ => ?_)
       clear hK K9
       try simp only [RegW.p]
       refine RegW.tk (v:=.string S2) 5 rfl ?_
       try simp only [RegW.p]
       refine RegW.tk (v:=.string S3) 6 rfl ?_
       try simp only [RegW.p]
       refine RegW.only (i:=9) rfl (by kernel_rfl) (fun K9 hK => ?_)
       go_simp
       refine c6.calls0 ?_
       intro wb hq
       replace hp:=lH (hp.out.step hq)
       replace HX:=lH (HX.out.since hq)
       replace HS:=lH (HS.out.step hq)
       replace hHeld:=And.intro ((Below.cell hq (p:=⟨G,0,none⟩) (lt_cell hHeld.1)).trans hHeld.1) (And.intro ((Below.cell hq (p:=⟨G,1,none⟩) (lt_cell hHeld.2.1)).trans hHeld.2.1) (And.intro ((Below.cell hq (p:=⟨G,2,none⟩) (lt_cell hHeld.2.2.1)).trans hHeld.2.2.1) ((Below.cell hq (p:=⟨G,3,none⟩) (lt_cell hHeld.2.2.2)).trans hHeld.2.2.2)))
       clear hq
       refine hK.out _ _ hHeld (fun _ => ?_)
       clear hK K9
       try simp only [RegW.p]
       refine RegW.tk (v:=.string S4) 10 rfl ?_
       try simp only [RegW.p]
       refine RegW.tk (v:=.string S5) 11 rfl ?_
       try simp only [RegW.p]
       refine RegW.only (i:=14) rfl (by kernel_rfl) (fun K9 hK => ?_)
       go_simp
       refine c7.calls0 ?_
       intro wb hq
       replace hp:=lH (hp.out.step hq)
       replace HX:=lH (HX.out.since hq)
       replace HS:=lH (HS.out.step hq)
       replace hHeld:=And.intro ((Below.cell hq (p:=⟨G,0,none⟩) (lt_cell hHeld.1)).trans hHeld.1) (And.intro ((Below.cell hq (p:=⟨G,1,none⟩) (lt_cell hHeld.2.1)).trans hHeld.2.1) (And.intro ((Below.cell hq (p:=⟨G,2,none⟩) (lt_cell hHeld.2.2.1)).trans hHeld.2.2.1) ((Below.cell hq (p:=⟨G,3,none⟩) (lt_cell hHeld.2.2.2)).trans hHeld.2.2.2)))
       clear hq
       refine hK.out _ _ hHeld (fun _ => ?_)
       clear hK K9
       try simp only [RegW.p]
       refine RegW.tk (v:=.string S6) 15 rfl ?_
       try simp only [RegW.p]
       refine RegW.tk (v:=.string S7) 16 rfl ?_
       try simp only [RegW.p]
       refine RegW.only (i:=19) rfl (by kernel_rfl) (fun K9 hK => ?_)
       go_simp
       refine c8.calls0 ?_
       intro wb hq
       replace hp:=lH (hp.out.step hq)
       replace HX:=lH (HX.out.since hq)
       replace HS:=lH (HS.out.step hq)
       replace hHeld:=And.intro ((Below.cell hq (p:=⟨G,0,none⟩) (lt_cell hHeld.1)).trans hHeld.1) (And.intro ((Below.cell hq (p:=⟨G,1,none⟩) (lt_cell hHeld.2.1)).trans hHeld.2.1) (And.intro ((Below.cell hq (p:=⟨G,2,none⟩) (lt_cell hHeld.2.2.1)).trans hHeld.2.2.1) ((Below.cell hq (p:=⟨G,3,none⟩) (lt_cell hHeld.2.2.2)).trans hHeld.2.2.2)))
       clear hq
       refine hK.out _ _ hHeld (fun _ => ?_)
       clear hK K9
       try simp only [RegW.p]
       refine RegW.tk (v:=.string S8) 20 rfl ?_
       try simp only [RegW.p]
       refine RegW.last rfl (by kernel_rfl) (by kernel_rfl) ?_
       clear hHeld a1 a2 a3 a4 a5 a6 a7 a8 z1 z2 z3 z4 z5 z6 z7 z8
       go_wp2_with fail
       go_ret
       rw [HF.out]
       exact ⟨rfl,HS.out⟩
theorem rtext_mk (K:Int) (k u m v e:ByteArray) (L:List A2) (hk:k.size <= 100000) (h:u.size <= 20000 /\ m.size <= 20000 /\ v.size <= 20000 /\ e.size <= 20000):RdR 53 L (fun x => #[rv K k u m v e x]) (.string (textV K k L u m v e)):=by
 have c1:=rcheck_rec K k u m v e L hk _ rfl
 by_cases hz:recE K k L = 0
 · rw [hz] at c1
   obtain ⟨-,-,hA⟩:=rec_kind hz
   obtain ⟨n1,n2⟩:=num_all hA
   have hex:∀ s:ByteArray,s.size <= 100000 -> Mak 48 #[.string s] (.string (bs (hx s))):=fun s hs W => RefDig.hex_any s W (by omega) _ rfl
   have hsz:∀ s:ByteArray,s.size <= 20000 -> (bs (hx s)).size <= 100000:=fun s hs => by rw [hex_size]; omega
   refine rtext_yes K k u m v e L c1 n1 n2 hk _ (rbare_mk K k u m v e L) _ _ _ _ _ _ (hsz u h.1) (hsz m h.2.1) (hsz v h.2.2.1) (hsz e h.2.2.2) (name_size K) (by rw [hex_size]; omega) (rname_ret K _ rfl).mak (hex k hk) (hex u (by omega)) (hex m (by omega)) (hex v (by omega)) (hex e (by omega)) ?_ _ ?_
   · apply ba_ext
     rw [app_list,app_list]
     unfold prefT
     rw [list_bs,list_bs,list_bs]
     show _ ++ [32] ++ _ = _
     simp
   · rw [pref_text u m v e hz]
     split
     · rfl
     · apply ba_ext
       simp only [app_list,list_bs]
       show _ = _ ++ [32,64] ++ _ ++ [44] ++ _ ++ [44] ++ _ ++ [44] ++ _
       unfold headW
       simp [Sp.joinC]
 · unfold textV
   rw [if_neg hz]
   exact rtext_no K k u m v e L _ (bne_iff_ne.2 hz) c1
end Rcd
namespace Rcd
open Att Kind Rec Atf Rw Flt Tlv
theorem namedF_is (w:List UInt8):∀ (L:List Kind.Row) (i:Int),namedF L i w = 0 ∨ ∃ (k:Nat) (r:Kind.Row),L[k]? = some r /\ r.1 = w /\ namedF L i w = i + k:=by
 intro L
 induction L with
 | nil => intro i; exact Or.inl rfl
 | cons q L ih =>
   intro i
   rw [namedF]
   by_cases h:q.1 = w
   · rw [if_pos h]
     exact Or.inr ⟨0,q,rfl,h,by simp⟩
   · rw [if_neg h]
     rcases ih (i + 1) with h1 | ⟨k,r,h1,h2,h3⟩
     · exact Or.inl h1
     · exact Or.inr ⟨k + 1,r,h1,h2,by rw [h3]; omega⟩
theorem named_is (w:List UInt8):namedV w = 0 ∨ ∃ k:Nat,k < 11 /\ (rowOf ((k:Int) + 1)).1 = w /\ namedV w = (k:Int) + 1:=by
 rcases namedF_is w Kind.rows 1 with h | ⟨k,r,h1,h2,h3⟩
 · exact Or.inl h
 · have hk:k < 11:=by rw [<- row_len]; exact (List.getElem?_eq_some_iff.1 h1).1
   rw [row_get k hk] at h1
   cases h1
   exact Or.inr ⟨k,hk,h2,by rw [show namedV w = namedF Kind.rows 1 w from rfl,h3]; omega⟩
def kK (w:List UInt8) (j:Nat):Int:=if namedV w < (j:Int) then namedV w else 0
theorem kK_1 (w:List UInt8):kK w 1 = 0:=by
 unfold kK
 rcases named_is w with h | ⟨k,-,-,h⟩
 · rw [h]; rfl
 · rw [if_neg (by omega)]
theorem kK_12 (w:List UInt8):kK w 12 = namedV w:=by
 unfold kK
 rcases named_is w with h | ⟨k,hk,-,h⟩
 · rw [h]; rfl
 · rw [if_pos (by omega)]
theorem kK_yes (w:List UInt8) (j:Nat) (h1:1 <= j) (h2:j <= 11) (h:(rowOf (j:Int)).1 = w):kK w (j + 1) = (j:Int):=by
 have h3:=named_row (j:Int) (by omega)
 rw [h] at h3
 unfold kK
 rw [h3,if_pos (by omega)]
theorem kK_no (w:List UInt8) (j:Nat) (h1:1 <= j) (h:(rowOf (j:Int)).1 ≠ w):kK w (j + 1) = kK w j:=by
 have h3:namedV w ≠ (j:Int):=fun h4 => by
   rcases named_is w with h5 | ⟨k,-,h5,h6⟩
   · omega
   · exact h (by rw [<- h4,h6]; exact h5)
 unfold kK
 by_cases h4:namedV w < (j:Int)
 · rw [if_pos h4,if_pos (by omega)]
 · rw [if_neg h4,if_neg (by omega)]
theorem rcand_1 (w0:List UInt8) (ws:List (List UInt8)):rcandW ((w0 :: ws).take 1) = (namedV w0,⟨#[]⟩,[],noH):=rfl
theorem rcand_2 (w0:List UInt8) (ws:List (List UInt8)) (x:List UInt8) (h:(w0 :: ws)[1]? = some x):rcandW ((w0 :: ws).take 2) = (namedV w0,Dig.unS x,[],noH):=by
 cases ws with
 | nil => cases h
 | cons y ws => cases h; rfl
theorem rcand_snoc (ws:List (List UInt8)) (j:Nat) (hj:2 <= j) (x:List UInt8) (h:ws[j]? = some x):rcandW (ws.take (j + 1)) = ((rcandW (ws.take j)).1,(rcandW (ws.take j)).2.1,(rst ((rcandW (ws.take j)).2.2.1,(rcandW (ws.take j)).2.2.2) x).1,(rst ((rcandW (ws.take j)).2.2.1,(rcandW (ws.take j)).2.2.2) x).2):=by
 match ws,j,hj,h with
 | [w0],j + 2,_,h => exact absurd h (by simp)
 | w0 :: w1 :: r,j + 2,_,h =>
   have h9:r[j]? = some x:=h
   show rcandW (w0 :: w1 :: r.take (j + 1)) = ((rcandW (w0 :: w1 :: r.take j)).1,(rcandW (w0 :: w1 :: r.take j)).2.1,(rst ((rcandW (w0 :: w1 :: r.take j)).2.2.1,(rcandW (w0 :: w1 :: r.take j)).2.2.2) x).1,(rst ((rcandW (w0 :: w1 :: r.take j)).2.2.1,(rcandW (w0 :: w1 :: r.take j)).2.2.2) x).2)
   rw [Att.take_snoc r j x h9,rcandW,rcandW,List.foldl_append]
   rfl
theorem runhex_m (s:ByteArray) (hm:s.size <= 140737488355328):∃ B,Mak 23 #[.string s] (.tuple #[.string (Dig.unS s.data.toList),.bool B]):=by
 have hl:s.data.toList.length = s.size:=rfl
 by_cases h:s.size % 2 = 0
 · have e:Dig.unB s.data.toList = Dig.okN s.data.toList (s.size / 2):=by
     unfold Dig.unB
     rw [hl,decide_eq_true h,Bool.true_and]
   exact ⟨Dig.unB s.data.toList,fun w => RefDig.unhex_even s (s.size / 2) w hm (by omega) _ _ e (by unfold Dig.unS; rw [e,hl])⟩
 · have e:Dig.unS s.data.toList = ⟨#[]⟩:=by
     unfold Dig.unS Dig.unB
     rw [hl,decide_eq_false h,Bool.false_and]
     rfl
   rw [e]
   exact ⟨false,fun w => RefDig.unhex_odd s w hm (by omega)⟩
theorem numS_ne (n:Int):Dig.numS n ≠ []:=by
 unfold Dig.numS
 split
 · exact List.cons_ne_nil _ _
 · intro h
   unfold Dig.digs at h
   split at h
   · cases h
   · exact absurd (congrArg List.length h) (by simp)
theorem runnum_m (s:ByteArray) (hm:s.size <= 140737488355328):∃ B,Mak 51 #[.string s] (.tuple #[.int .i64 (unNv s.data.toList),.bool B]):=by
 have hl:s.data.toList.length = s.size:=rfl
 by_cases h:s.size < 1 ∨ 20 < s.size
 · have e:unNv s.data.toList = 0:=by
     unfold unNv unN
     rw [if_neg]
     · rfl
     · rintro ⟨h1,h2⟩
       rcases h with h | h
       · have h3:s.data.toList = []:=List.length_eq_zero_iff.1 (by omega)
         rw [h3] at h2
         exact numS_ne _ h2
       · omega
   rw [e]
   exact ⟨false,(RefDig.unnum_out s h hm).mak⟩
 · have e:unNv s.data.toList = if decide (bs (Dig.numS (Dig.unV s.data.toList)) = s) = true then Dig.unV s.data.toList else 0:=by
     unfold unNv unN
     by_cases h2:Dig.numS (Dig.unV s.data.toList) = s.data.toList
     · have h3:bs (Dig.numS (Dig.unV s.data.toList)) = s:=by rw [h2]; exact ba_ext rfl
       rw [if_pos ⟨by omega,h2⟩,decide_eq_true h3,if_pos rfl]
       rfl
     · have h3:¬ bs (Dig.numS (Dig.unV s.data.toList)) = s:=fun h4 => h2 (by
         have h5:=congrArg (fun z:ByteArray => z.data.toList) h4
         exact h5)
       rw [if_neg (fun h4 => h2 h4.2),decide_eq_false h3,if_neg (by decide)]
       rfl
   by_cases h45:(s[0]'(by omega)).toNat = 45
   · exact ⟨_,RefDig.unnum_neg s (by omega) (by omega) h45 _ _ _ rfl rfl e⟩
   · exact ⟨_,RefDig.unnum_pos s (by omega) (by omega) h45 _ _ _ rfl rfl e⟩
theorem four_of (P:List ByteArray) (h:P ≠ []):∃ a b c d r,P ++ [⟨#[]⟩,⟨#[]⟩,⟨#[]⟩] = a :: b :: c :: d :: r:=by
 match P,h with
 | [a],_ => exact ⟨_,_,_,_,_,rfl⟩
 | [a,b],_ => exact ⟨_,_,_,_,_,rfl⟩
 | [a,b,c],_ => exact ⟨_,_,_,_,_,rfl⟩
 | a :: b :: c :: d :: r,_ => exact ⟨_,_,_,_,_,rfl⟩
theorem two_of (P:List ByteArray) (h:P ≠ []):∃ a b r,P ++ [⟨#[]⟩] = a :: b :: r:=by
 match P,h with
 | [a],_ => exact ⟨_,_,_,rfl⟩
 | a :: b :: r,_ => exact ⟨_,_,_,rfl⟩
def PS (w1 W:World) (g:Nat) (K:Int) (k:ByteArray) (L:List A2) (u m v e:ByteArray) (V:Value) (X:List Rw.Row):Prop :=
 Rw.Rows W w1.heap.size (RwL.lone 60 g [.int .i64 K,.string k,V,.string u,.string m,.string v,.string e] :: ⟨91,2,V,L.length,L.flatMap ac⟩ :: X) /\ Since w1 W
section
variable {w1 W W':World} {g:Nat} {K:Int} {k:ByteArray} {L:List A2} {u m v e:ByteArray} {V:Value} {X:List Rw.Row}
theorem PS.since (h:PS w1 W g K k L u m v e V X) (hs:Since W W'):PS w1 W' g K k L u m v e V X:=⟨h.1.since hs,h.2.step hs⟩
theorem PS.cells (h:PS w1 W g K k L u m v e V X):W.cell? ⟨g,0,none⟩ = some (.int .i64 K) /\ W.cell? ⟨g,1,none⟩ = some (.string k) /\ W.cell? ⟨g,2,none⟩ = some V /\ W.cell? ⟨g,3,none⟩ = some (.string u) /\ W.cell? ⟨g,4,none⟩ = some (.string m) /\ W.cell? ⟨g,5,none⟩ = some (.string v) /\ W.cell? ⟨g,6,none⟩ = some (.string e):=by
 have h1:=fun i x hx => (RwL.lone_cell (h.1.own (RwL.lone 60 g [.int .i64 K,.string k,V,.string u,.string m,.string v,.string e]) (by simp)) i x hx).1
 exact ⟨h1 0 _ rfl,h1 1 _ rfl,h1 2 _ rfl,h1 3 _ rfl,h1 4 _ rfl,h1 5 _ rfl,h1 6 _ rfl⟩
theorem PS.atts (h:PS w1 W g K k L u m v e V X):AttsS W V L:=AttsS.own (h.1.own ⟨91,2,V,L.length,L.flatMap ac⟩ (by simp))
theorem PS.val (h:PS w1 W g K k L u m v e V X):∃ A c,V = .slice A L.length c /\ L.length <= c:=own_slice (h.1.own ⟨91,2,V,L.length,L.flatMap ac⟩ (by simp))
theorem PS.pop {x:Rw.Row} (h:PS w1 W g K k L u m v e V [x]):PS w1 W g K k L u m v e V []:=⟨Tree.rows_sub h.1 (List.Sublist.cons_cons _ (List.Sublist.cons_cons _ (List.nil_sublist _))),h.2⟩
theorem PS.new (w1:World):PS w1 (w1.alloc (.cells Z7 60)) w1.heap.size 0 ⟨#[]⟩ [] ⟨#[]⟩ ⟨#[]⟩ ⟨#[]⟩ ⟨#[]⟩ (.slice none 0 0) [] :=
 ⟨RwL.rows_push (rs:=[⟨91,2,.slice none 0 0,0,[]⟩]) ⟨fun r hr => by rw [List.mem_singleton.1 hr]; exact World.ownsRow_nil _ _ _ _,by simp⟩ (Nat.le_refl _) [.int .i64 0,.string ⟨#[]⟩,.slice none 0 0,.string ⟨#[]⟩,.string ⟨#[]⟩,.string ⟨#[]⟩,.string ⟨#[]⟩] 60,(Since.refl w1).alloc _⟩
theorem PS.push {e9:TypeId} {V9:Value} {n9:Nat} {xs:List Value} (h:PS w1 W g K k L u m v e V []) (hs:Since W W') (hr:W'.ownsRow W.heap.size e9 1 V9 n9 xs):PS w1 W' g K k L u m v e V [⟨e9,1,V9,n9,xs⟩] :=
 ⟨Tree.rows_merge h.1 hs (rs':=[⟨e9,1,V9,n9,xs⟩]) ⟨fun r hr2 => by rw [List.mem_singleton.1 hr2]; exact hr,by simp⟩ (Below.size h.2),h.2.step hs⟩
theorem own_cell {W:World} {base:Nat} {ty:TypeId} {n g c:Nat} {xs:List Value} (h:W.ownsRow base ty 1 (.slice (some ⟨g,0,none⟩) n c) n xs) (i:Nat) (x:Value) (hx:xs[i]? = some x):W.cell? ⟨g,i,none⟩ = some x:=by
 rcases h.2 with ⟨h0,_⟩ | ⟨g',cap,cur,hv,hb,hg,hc,hm,hs,ht⟩
 · cases h0
 · cases hv
   unfold World.cell?
   rw [hg]
   rw [<- ht,List.getElem?_take] at hx
   split at hx
   · simpa using hx
   · cases hx
theorem own_addr {W:World} {base:Nat} {ty:TypeId} {n:Nat} {V:Value} {xs:List Value} (h:W.ownsRow base ty 1 V n xs) (hn:0 < n):∃ g c,V = .slice (some ⟨g,0,none⟩) n c:=by
 rcases h.2 with ⟨h0,h1⟩ | ⟨g',cap,cur,hv,_⟩
 · omega
 · exact ⟨_,_,hv⟩
theorem PS.word {e9:TypeId} {g9 n9 c9:Nat} {xs:List Value} (h:PS w1 W g K k L u m v e V [⟨e9,1,.slice (some ⟨g9,0,none⟩) n9 c9,n9,xs⟩]) (i:Nat) (x:Value) (hx:xs[i]? = some x):W.cell? ⟨g9,i,none⟩ = some x :=
 own_cell (h.1.own ⟨e9,1,.slice (some ⟨g9,0,none⟩) n9 c9,n9,xs⟩ (by simp)) i x hx
theorem PS.own (h:PS w1 W g K k L u m v e V X):W.ownsRow w1.heap.size 91 2 V L.length (L.flatMap ac):=h.1.own ⟨91,2,V,L.length,L.flatMap ac⟩ (by simp)
end
theorem unS_half (w:List UInt8):2 * (Dig.unS w).size <= w.length:=by
 unfold Dig.unS
 by_cases hb:Dig.unB w = true
 · rw [if_pos hb,bs_nums,size_bs,List.length_map,List.length_map,List.length_range]
   omega
 · rw [if_neg hb]
   exact Nat.zero_le _
theorem three_one:∀ u ∈ (#[.string ⟨#[]⟩,.string ⟨#[]⟩,.string ⟨#[]⟩]:Array Value).toList,u.oneCell' = true:=by
 intro u hu
 simp only [List.mem_cons,List.not_mem_nil,or_false] at hu
 rcases hu with rfl | rfl | rfl <;> rfl
theorem tail_list (x:ByteArray):(x.extract 1 x.size).data.toList = x.data.toList.tail:=by
 rw [ByteArray.data_extract,Array.toList_extract]
 unfold List.extract
 rw [List.take_of_length_le (by rw [List.length_drop]; exact Nat.le_refl _),List.drop_one]
theorem head_at (x:ByteArray) (h:0 < x.size):x.data.toList.head? = some (x[0]'h):=by
 rw [List.head?_eq_getElem?,List.getElem?_eq_getElem (by simpa using h)]
 rfl
theorem rst_head (p:List A2 × Hd) (x:List UInt8) (h:x.head? = some 64):rst p x = (p.1,rheadF x):=if_pos h
theorem rst_att (p:List A2 × Hd) (x:List UInt8) (h:¬ x.head? = some 64):rst p x = (p.1 ++ [rattF x],p.2):=if_neg h
theorem rhead_is (x:List UInt8) (P:List ByteArray) (a b c d:ByteArray) (r:List ByteArray) (hP:P.map (·.data.toList) = Sp.pcs 44 x.tail) (h:P ++ [⟨#[]⟩,⟨#[]⟩,⟨#[]⟩] = a :: b :: c :: d :: r):rheadF x = (Dig.unS a.data.toList,Dig.unS b.data.toList,Dig.unS c.data.toList,Dig.unS d.data.toList):=by
 have h1:Sp.pcs 44 x.tail ++ [[],[],[]] = a.data.toList :: b.data.toList :: c.data.toList :: d.data.toList :: r.map (·.data.toList):=by
   rw [<- hP]
   have h2:=congrArg (List.map (fun z:ByteArray => z.data.toList)) h
   rw [List.map_append] at h2
   exact h2
 unfold rheadF
 rw [h1]
 rfl
theorem ratt_is (x:List UInt8) (P:List ByteArray) (a b:ByteArray) (r:List ByteArray) (hP:P.map (·.data.toList) = Sp.pcs 61 x) (h:P ++ [⟨#[]⟩] = a :: b :: r):rattF x = (unNv a.data.toList,Dig.unS b.data.toList):=by
 have h1:Sp.pcs 61 x ++ [[]] = a.data.toList :: b.data.toList :: r.map (·.data.toList):=by
   rw [<- hP]
   have h2:=congrArg (List.map (fun z:ByteArray => z.data.toList)) h
   rw [List.map_append] at h2
   exact h2
 unfold rattF
 rw [h1]
 rfl
end Rcd
end Go.Proofs.YtcdjfmlanicjlaaGreatDoor
