import Derived.Test.YtcdjfmlanicjlaaDoorSk51
set_option maxRecDepth 100000
namespace Go.Proofs.YtcdjfmlanicjlaaDoor
open Go.RowKit
namespace Rcd
open Att Kind Rec Atf Rw Flt Tlv
def Wd (W:World) (g:Nat) (L:List ByteArray):Prop:=g < W.heap.size /\ ∀ (j:Nat) x,L[j]? = some x -> W.cell? ⟨g,j,none⟩ = some (.string x)
theorem Wd.since {W W':World} {g:Nat} {L:List ByteArray} (h:Wd W g L) (hs:Since W W'):Wd W' g L:=⟨Nat.lt_of_lt_of_le h.1 (Below.size hs),fun j x hx => (Below.cell hs (p:=⟨g,j,none⟩) h.1).trans (h.2 j x hx)⟩
theorem Wd.set {w W:World} {g gC:Nat} {C:Array Value} {t:TypeId} {L:List ByteArray} (h:Wd W g L) (hc:HR w gC C t W) (hne:g ≠ gC) (k:Nat) (v:Value):Wd (W.setCell ⟨gC,k,none⟩ v) g L:=by
 rw [Go.setCell_eq_setRow W gC k C t _ v hc.row]
 refine ⟨?_,fun j x hx => (cell_setRow hne).trans (h.2 j x hx)⟩
 have h5:=setRow_other W gC g (C.setIfInBounds k v) hne
 have h6:=Array.getElem?_eq_getElem h.1
 rw [<- h5] at h6
 exact (Array.getElem?_eq_some_iff.1 h6).1
theorem slr_oth {w W:World} {g k n:Nat} {v:Value} {cs:List Value} {C:Array Value} {t:TypeId} (h:SlR W k v n cs) (hg:HR w g C t W) (hne:v.ownBlock ≠ some g) (j:Nat) (x:Value):SlR (W.setCell ⟨g,j,none⟩ x) k v n cs:=by
 obtain ⟨hl,A,c,rfl,h1,h2,h3⟩:=h
 refine ⟨hl,A,c,rfl,h1,h2, ?_⟩
 rcases h3 with h3 | ⟨b,o,rfl,hlt,hc⟩
 · exact Or.inl h3
 · have hb:b ≠ g:=fun e => hne (by rw [e]; rfl)
   rw [Go.setCell_eq_setRow W g j C t _ x hg.row]
   refine Or.inr ⟨b,o,rfl, ?_,fun i u hu => (cell_setRow hb).trans (hc i u hu)⟩
   have h5:=setRow_other W g b (C.setIfInBounds j x) hb
   have h6:=Array.getElem?_eq_getElem hlt
   rw [<- h5] at h6
   exact (Array.getElem?_eq_some_iff.1 h6).1
theorem slr_row {W:World} {g k n:Nat} {v:Value} {cs:List Value} (h:SlR W k v n cs) (hne:v.ownBlock ≠ some g) (new:Array Value):SlR (W.setRow g new) k v n cs:=by
 obtain ⟨hl,A,c,rfl,h1,h2,h3⟩:=h
 refine ⟨hl,A,c,rfl,h1,h2, ?_⟩
 rcases h3 with h3 | ⟨b,o,rfl,hlt,hc⟩
 · exact Or.inl h3
 · have hb:b ≠ g:=fun e => hne (by rw [e]; rfl)
   refine Or.inr ⟨b,o,rfl, ?_,fun i u hu => (cell_setRow hb).trans (hc i u hu)⟩
   have h5:=setRow_other W g b new hb
   have h6:=Array.getElem?_eq_getElem hlt
   rw [<- h5] at h6
   exact (Array.getElem?_eq_some_iff.1 h6).1
def textC (c:Cd):ByteArray:=textV c.1 c.2.1 c.2.2.1 c.2.2.2.1 c.2.2.2.2.1 c.2.2.2.2.2.1 c.2.2.2.2.2.2
def parV (t:ByteArray):Cd × Int:=match candP t.data.toList with
 | none => (noCd,5)
 | some c => if textC c = t then (c,0) else (noCd,5)
theorem cand_1 (w0 w1:List UInt8) (ws:List (List UInt8)) (h:unH w1 = none):candW (w0 :: w1 :: ws) = none:=by
 rw [candW,h]
theorem cand_2 (w0 w1:List UInt8) (ws:List (List UInt8)) (X:ByteArray) (l:List UInt8) (h:unH w1 = some X) (hl:(w0 :: w1 :: ws).getLastD [] = l) (hh:¬ l.head? = some 64):candW (w0 :: w1 :: ws) = (match attsP ws with
   | none => none
   | some L => some (namedV w0,X,L,noH)):=by
 rw [candW,h]
 dsimp only
 rw [hl,if_neg hh]
 cases attsP ws <;> rfl
theorem unH_size {w:List UInt8} {X:ByteArray} (h:unH w = some X):2 * X.size <= w.length:=by
 unfold unH at h
 split at h
 · rename_i hb
   cases h
   unfold Dig.unS
   rw [if_pos hb,bs_nums,size_bs,List.length_map,List.length_map,List.length_range]
   omega
 · cases h
theorem last_is {α:Type} (l:List α) (d x:α) (n:Nat) (h:l[n]? = some x) (hn:l.length = n + 1):l.getLastD d = x:=by
 rw [List.getLastD_eq_getLast?,List.getLast?_eq_getElem?,hn,Nat.add_sub_cancel,h]
 rfl
theorem cut2 (g n2 c:Nat) (hc:n2 + 2 <= c):∃ A',(∀ W,(Instr.slice 33 (.slice (some ⟨g,0,none⟩) (n2 + 2) c) (some (.int .i64 2)) none none).run Tryd.prog W = .ok (.slice A' n2 (c - 2)) W) /\ (n2 = 0 ∨ A' = some ⟨g,2,none⟩):=by
 have ht:=Tryd.underlying33
 have ht':Tryd.prog.underlying 33 = some (.slice (Tryd.prog.elem 33)):=by simp [Program.elem,ht]
 have he:Tryd.prog.elem 33 = 9:=by simp [Program.elem,ht]
 have hz:∀ w,(Go.sizeOf 9).run Tryd.prog w = .ok 1 w:=by intro w; kernel_rfl
 refine ⟨if c = 2 then some ⟨g,0,none⟩ else (some (⟨g,0,none⟩:Addr)).map (·.add (2 * 1)),fun W => ?_, ?_⟩
 · rw [run_slice_l W 33 _ _ _ ht' .i64 2 (by omega) (by omega),he,hz]
   simp only [Result.andThen,sliced]
   rfl
 · by_cases h:c = 2
   · exact Or.inl (by omega)
   · rw [if_neg h]
     exact Or.inr rfl
theorem Wd.tail {W:World} {g c:Nat} {x0 x1:ByteArray} {ws:List ByteArray} {A:Option Addr} (h:Wd W g (x0 :: x1 :: ws)) (hA:ws.length = 0 ∨ A = some ⟨g,2,none⟩) (hc:ws.length <= c) (hm:c <= maxLen):StrsS W (.slice A ws.length c) ws:=by
 refine ⟨by simp,A,c,rfl,hc,hm, ?_⟩
 rcases hA with hA | rfl
 · exact Or.inl hA
 · refine Or.inr ⟨g,2,rfl,h.1,fun i u hu => ?_⟩
   rw [List.getElem?_map] at hu
   cases hq:ws[i]? with
   | none => rw [hq] at hu; cases hu
   | some y =>
     rw [hq] at hu
     cases hu
     exact h.2 (2 + i) y (by rw [show 2 + i = i + 2 by omega]; exact hq)
theorem hr_as {w W:World} {g:Nat} {C C':Array Value} {t:TypeId} (h:HR w g C t W) (e:C = C'):HR w g C' t W:=e ▸ h
theorem unH_64 {w:List UInt8} {X:ByteArray} (h:unH w = some X):¬ w.head? = some 64:=by
 intro h6
 unfold unH at h
 split at h
 · rename_i hb
   unfold Dig.unB at hb
   rw [Bool.and_eq_true] at hb
   match w,h6,hb with
   | c :: [],_,hb => exact absurd (of_decide_eq_true hb.1) (by show ¬ 1 % 2 = 0; decide)
   | c :: d :: r,h6,hb =>
     cases h6
     have h1:=Dig.okN_le _ 1 _ hb.2 (by show 1 <= (r.length + 1 + 1) / 2; omega)
     unfold Dig.okN at h1
     rw [List.all_eq_true] at h1
     have h2:=h1 0 (List.mem_range.2 (by omega))
     rw [Bool.and_eq_true] at h2
     exact absurd (of_decide_eq_true h2.1) (by show ¬ (0:Int) <= Dig.val 64; decide)
 · cases h
theorem cand_3 (w0 w1:List UInt8) (ws:List (List UInt8)) (X:ByteArray) (l:List UInt8) (h:unH w1 = some X) (hl:(w0 :: w1 :: ws).getLastD [] = l) (hh:l.head? = some 64):candW (w0 :: w1 :: ws) = (match headP l.tail with
   | none => none
   | some H => match attsP ws.dropLast with
     | none => none
     | some L => some (namedV w0,X,L,H)):=by
 rw [candW,h]
 dsimp only
 rw [hl,if_pos hh]
 cases headP l.tail with
 | none => rfl
 | some H => cases attsP ws.dropLast <;> rfl
theorem cut3 (g n2 n3 c:Nat) (A:Option Addr) (hn:n3 <= n2) (hc:n2 <= c) (hA:A = some ⟨g,2,none⟩):∃ A',(∀ W,(Instr.slice 33 (.slice A n2 c) none (some (.int .i64 (n3:Int))) none).run Tryd.prog W = .ok (.slice A' n3 c) W) /\ (n3 = 0 ∨ A' = some ⟨g,2,none⟩):=by
 subst hA
 have ht:=Tryd.underlying33
 have ht':Tryd.prog.underlying 33 = some (.slice (Tryd.prog.elem 33)):=by simp [Program.elem,ht]
 have he:Tryd.prog.elem 33 = 9:=by simp [Program.elem,ht]
 have hz:∀ w,(Go.sizeOf 9).run Tryd.prog w = .ok 1 w:=by intro w; kernel_rfl
 refine ⟨if c - 0 = 0 then some ⟨g,2,none⟩ else (some (⟨g,2,none⟩:Addr)).map (·.add (0 * 1)),fun W => ?_, ?_⟩
 · rw [run_slice_h W 33 _ _ _ ht' .i64 n3 (by omega) (by omega),he,hz]
   simp only [Result.andThen,sliced]
   rfl
 · refine Or.inr ?_
   split <;> rfl
theorem Wd.front {W:World} {g c n3:Nat} {x0 x1:ByteArray} {ws:List ByteArray} {A:Option Addr} (h:Wd W g (x0 :: x1 :: ws)) (hn:ws.length = n3 + 1) (hA:n3 = 0 ∨ A = some ⟨g,2,none⟩) (hc:n3 <= c) (hm:c <= maxLen):StrsS W (.slice A n3 c) ws.dropLast:=by
 have hd:ws.dropLast.length = n3:=by rw [List.length_dropLast,hn]; rfl
 have h9:=Wd.tail (ws:=ws.dropLast) (A:=A) (c:=c) (W:=W) (g:=g) (x0:=x0) (x1:=x1) ⟨h.1,fun j x hx => h.2 j x (by
   match j,hx with
   | 0,hx => exact hx
   | 1,hx => exact hx
   | j + 2,hx =>
     have h8:ws.dropLast[j]? = some x:=hx
     show ws[j]? = some x
     rw [List.dropLast_eq_take,List.getElem?_take] at h8
     split at h8
     · exact h8
     · cases h8)⟩ (by rw [hd]; exact hA) (by rw [hd]; exact hc) hm
 rw [hd] at h9
 exact h9
theorem splN_le (c:UInt8) (k:Nat) (l x:List UInt8) (h:x ∈ Sp.splN c (k + 1) l):x.length <= l.length:=by
 have h1:=Sp.splB_list c k (bs l)
 rw [list_bs] at h1
 rw [<- h1] at h
 obtain ⟨y,hy,rfl⟩:=List.mem_map.1 h
 have h2:=Sp.splB_le c k (bs l) y hy
 rw [size_bs] at h2
 exact h2
theorem headP_size {l:List UInt8} {H:Hd} (h:headP l = some H):2 * H.1.size <= l.length /\ 2 * H.2.1.size <= l.length /\ 2 * H.2.2.1.size <= l.length /\ 2 * H.2.2.2.size <= l.length:=by
 unfold headP at h
 split at h
 · rename_i a b c d hs
   split at h
   · rename_i u m v e ha hb hc hd
     cases h
     have q:=fun x hx => splN_le 44 4 l x (by rw [hs]; exact hx)
     exact ⟨Nat.le_trans (unH_size ha) (q a (by simp)),Nat.le_trans (unH_size hb) (q b (by simp)),Nat.le_trans (unH_size hc) (q c (by simp)),Nat.le_trans (unH_size hd) (q d (by simp))⟩
   · cases h
 · cases h
theorem ext_tail (s:ByteArray):(s.extract 1 s.size).data.toList = s.data.toList.tail:=by
 rw [ByteArray.data_extract,Array.toList_extract]
 show (s.data.toList.drop 1).take (s.data.toList.length - 1) = _
 rw [List.drop_one,List.take_of_length_le (by rw [List.length_tail]; exact Nat.le_refl _)]
set_option maxHeartbeats 8000000 in
theorem parse_two (t:ByteArray) (hm4:t.size <= 40000) (hn:2 <= (Sp.splN 32 36 t.data.toList).length) (R:Cd) (C:Int) (hRC:parV t = (R,C)):ParR 16 t R C:=by
 have hm:t.size <= 1000000:=by omega
 have HM4:=lH hm4
 have HNN:=lH hn
 have HRC:=lH hRC
 clear hn hRC hm4
 intro w hT
 have HT:=lH hT
 have c1:=fun w => Sp.splitN_mk t 32 36 (by decide) (by decide) hm w
 have hz:(w.alloc (.cells Z7 50)).heap.size = w.heap.size + 1:=by simp
 have hr:Hid (HR w w.heap.size Z7 50 ((w.alloc (.cells Z7 50)).alloc (.cells Z7 50))):=lH (hr_old ⟨heap_alloc_new w _⟩ _)
 have hc:Hid (HR w (w.heap.size + 1) Z7 50 ((w.alloc (.cells Z7 50)).alloc (.cells Z7 50))):=lH ⟨by rw [<- hz]; exact heap_alloc_new _ _⟩
 have HS:=lH (((Since.refl w).alloc (.cells Z7 50)).alloc (.cells Z7 50))
 have hz2:((w.alloc (.cells Z7 50)).alloc (.cells Z7 50)).heap.size = w.heap.size + 1 + 1:=by simp
 clear hT hz
 unfold Z7 at hr hc HS hz2
 go_enter Tryd.func16,Tryd.ntmps16
 go_wp2_with fail
 refine wp_scope_some 1 ?_
 go_wp2_with fail
 refine (c1 _).mono ?_
 rintro _ w1 ⟨N,L,rfl,hv,hL,hzz,h1⟩
 rw [hz2] at hv ⊢
 replace hr:=lH (hr.out.step h1)
 replace hc:=lH (hc.out.step h1)
 replace HS:=lH (HS.out.step h1)
 clear h1 hz2
 obtain ⟨x0,x1,ws,rfl⟩:∃ x0 x1 ws,L = x0 :: x1 :: ws:=by
   have h9:=HNN.out
   rw [<- hL,List.length_map] at h9
   match L,h9 with
   | x0 :: x1 :: ws,_ => exact ⟨x0,x1,ws,rfl⟩
 obtain ⟨bb,oo,cc,h2,hnc,hcm,h4,h3⟩:=SlR.form hv (by show 0 < ws.length + 1 + 1; omega)
 obtain ⟨e1,-,e3⟩:=Value.slice.inj h2
 cases e1
 subst e3
 have HNC:=lH hnc
 have HNM:=lH hcm
 obtain ⟨gS,hgS⟩:∃ g,g = w.heap.size + 1 + 1:=⟨_,rfl⟩
 rw [<- hgS] at hv h3 h4 ⊢
 have hW:Wd w1 gS (x0 :: x1 :: ws):=⟨h4,fun j y hy => by
   have h9:=h3 j (.string y) (by rw [List.getElem?_map,hy]; rfl)
   rw [Nat.zero_add] at h9
   exact h9⟩
 have HW:=lH hW
 have HL:=lH hL
 have HZ:=lH hzz
 have HGS:=lH hgS
 have hle:(x0 :: x1 :: ws).length <= 36:=by
   have h9:=congrArg List.length hL
   rw [List.length_map] at h9
   rw [h9,<- Sp.splB_list,List.length_map]
   exact (Sp.splB_len 32 35 t).1
 obtain ⟨n,hnL⟩:∃ n,n = (x0 :: x1 :: ws).length:=⟨_,rfl⟩
 rw [<- hnL] at hle ⊢
 obtain ⟨n1,hn1⟩:∃ m,n = m + 1:=⟨ws.length + 1,by rw [hnL]; rfl⟩
 obtain ⟨n2,hn2⟩:∃ m,n1 = m + 1:=⟨ws.length,by
   have h9:n = ws.length + 1 + 1:=hnL
   omega⟩
 have HNL:=lH hnL
 have HLE:=lH hle
 have HN1:=lH hn1
 have HN2:=lH hn2
 have HNW:=lH (show n2 = ws.length by
   have h9:n = ws.length + 1 + 1:=hnL
   omega)
 obtain ⟨last,hlast⟩:∃ y,(x0 :: x1 :: ws)[n1]? = some y:=⟨_,List.getElem?_eq_getElem (by rw [<- hnL]; omega)⟩
 have HLA:=lH hlast
 have m0:=hW.2 0 x0 rfl
 have m1:=hW.2 1 x1 rfl
 have mL:=hW.2 n1 last hlast
 have w6:IntKind.i64.wrap ((n:Int) - 1) = (n1:Int):=by rw [IntKind.wrap_i64]; omega
 have i0:(0:Int) <= (n1:Int):=by omega
 have i1:(n1:Int) < (n:Int):=by omega
 have i2:(0:Int) < (n:Int):=by omega
 have i3:(1:Int) < (n:Int):=by omega
 have i4:(2:Int) <= (n:Int):=by omega
 have j1:decide ((n:Int) < 2) = false:=decide_eq_false (by omega)
 clear h2 h3 h4 hnc hcm hv hL hzz hgS hnL hn1 hn2 hlast hW hle
 have hcw:candP t.data.toList = candW (x0.data.toList :: x1.data.toList :: ws.map (fun z:ByteArray => z.data.toList)):=by
   unfold candP
   rw [<- HL.out]
   rfl
 have HCW:=lH hcw
 have hgl:(x0.data.toList :: x1.data.toList :: ws.map (fun z:ByteArray => z.data.toList)).getLastD [] = last.data.toList:=by
   refine last_is _ _ _ n1 ?_ ?_
   · have h9:=HLA.out
     have h8:((x0 :: x1 :: ws).map (fun z:ByteArray => z.data.toList))[n1]? = some last.data.toList:=by rw [List.getElem?_map,h9]; rfl
     exact h8
   · have h9:=HNL.out
     have h8:=HN1.out
     show (ws.map _).length + 1 + 1 = n1 + 1
     rw [List.length_map]
     have h7:(x0 :: x1 :: ws).length = ws.length + 1 + 1:=rfl
     omega
 have HGL:=lH hgl
 clear hcw hgl
 go_wp2_with fail
 refine (named_k x0).calls0 (Kp.keep HT.out HS.out).1 ?_
 intro w2 hq
 replace hr:=lH (hr.out.step hq)
 replace hc:=lH (hc.out.step hq)
 replace HS:=lH (HS.out.step hq)
 replace HW:=lH (HW.out.since hq)
 clear hq
 clear m0 m1 mL
 obtain ⟨K,hK⟩:∃ K,K = namedV x0.data.toList:=⟨_,rfl⟩
 rw [<- hK]
 have HK:=lH hK
 clear hK
 have kk:w2.cell? ⟨w.heap.size + 1,0,none⟩ = some (.int .i64 0):=hr_cell hc.out 0 _ rfl
 have ff:=hr_free hc.out 0
 have hc2:=lH (hr_set hc.out 0 (.int .i64 K))
 have hr2:=lH (hr_low hr.out hc.out (show w.heap.size ≠ w.heap.size + 1 by omega) 0 (.int .i64 K))
 have HS2:=lH (since_cell HS.out (show w.heap.size <= w.heap.size + 1 by omega) 0 (.int .i64 K))
 have HW2:=lH (Wd.set HW.out hc.out (show gS ≠ w.heap.size + 1 by rw [HGS.out]; omega) 0 (.int .i64 K))
 clear hc hr HS HW
 have m1:=HW2.out.2 1 x1 rfl
 obtain ⟨X,B,c2,u2⟩:=unhex_m x1 (Nat.le_trans (HZ.out x1 (by simp)) (by omega))
 go_wp2_with fail
 generalize w2.setCell ⟨w.heap.size + 1,0,none⟩ (.int .i64 K) = w3 at hc2 hr2 HS2 HW2 ⊢
 have hc:=hc2
 have hr:=hr2
 have HS:=HS2
 have HW:=HW2
 clear hc2 hr2 HS2 HW2 kk ff
 clear m1
 refine c2.calls0 ?_
 intro w4 hq
 replace hr:=lH (hr.out.step hq)
 replace hc:=lH (hc.out.step hq)
 replace HS:=lH (HS.out.step hq)
 replace HW:=lH (HW.out.since hq)
 clear hq
 have kk:w4.cell? ⟨w.heap.size + 1,1,none⟩ = some (.string ⟨#[]⟩):=hr_cell hc.out 1 _ rfl
 have ff:=hr_free hc.out 1
 have hc2:=lH (hr_set hc.out 1 (.string X))
 have hr2:=lH (hr_low hr.out hc.out (show w.heap.size ≠ w.heap.size + 1 by omega) 1 (.string X))
 have HS2:=lH (since_cell HS.out (show w.heap.size <= w.heap.size + 1 by omega) 1 (.string X))
 have HW2:=lH (Wd.set HW.out hc.out (show gS ≠ w.heap.size + 1 by rw [HGS.out]; omega) 1 (.string X))
 clear hc hr HS HW
 cases B with
 | false =>
   have HP:Hid (parV t = (noCd,5)):=lH (by unfold parV; rw [HCW.out,cand_1 _ _ _ u2])
   clear u2
   go_wp2_with fail
   generalize w4.setCell ⟨w.heap.size + 1,1,none⟩ (.string X) = w5 at hc2 hr2 HS2 HW2 ⊢
   have hc:=hc2
   have hr:=hr2
   have HS:=HS2
   have HW:=HW2
   clear hc2 hr2 HS2 HW2 kk ff
   go_step3
   refine ⟨_,rfl, ?_⟩
   have e9:=HRC.out.symm.trans HP.out
   cases e9
   go_wp2_with (refine RwL.at_store (ty:=50) rfl ?_; refine wpList_store_row rfl 50 _ _ rfl w.heap.size Z7 (by rfl) (by rfl) _ _ hr.out.row (r7_info _ _ _ _ _ _ _) rfl (r7_one _ _ _ _ _ _ _ _ _) ?_)
   exact bodyPost_ret (v:=.tuple #[.agg Z7,.int .i64 5]) (results_cell_tmp2 Tryd.results16 _ _ _ _ _ _ _ _ rfl rfl (setRow_heap _ _ _ _ _ _ hr.out.row) Tryd.underlying50 rfl (r7_info _ _ _ _ _ _ _)) rfl ⟨_,rfl,AttsS.nil _,below_setRow HS.out (Nat.le_refl _) _⟩
 | true =>
   by_cases hh:last.data.toList.head? = some 64
   · have hn2:n2 ≠ 0:=fun e0 => by
       have h9:=HLA.out
       have h8:=HN2.out
       rw [e0] at h8
       rw [h8] at h9
       have h7:x1 = last:=Option.some.inj h9
       rw [<- h7] at hh
       exact unH_64 u2 hh
     obtain ⟨n3,hn3⟩:∃ m,n2 = m + 1:=⟨n2 - 1,by omega⟩
     have HN3:=lH hn3
     have HH:=lH hh
     have p0:((1:Int) <= (last.size:Int)):=by
       have h9:=hh
       have h8:last.data.toList.length = last.size:=rfl
       cases hq:last.data.toList with
       | nil => rw [hq] at h9; cases h9
       | cons c r => rw [hq] at h8; rw [<- h8]; show (1:Int) <= ((r.length + 1:Nat):Int); omega
     have w7:IntKind.i64.wrap ((n2:Int) - 1) = (n3:Int):=by rw [IntKind.wrap_i64]; have:=HLE.out; have:=HN1.out; have:=HN2.out; omega
     obtain ⟨A2,s2,a2⟩:=cut2 gS n2 N (by have h9:=HNC.out; have h8:=HNW.out; have h7:(x0 :: x1 :: ws).length = ws.length + 2:=rfl; omega)
     rw [show n2 + 2 = n by have:=HN1.out; have:=HN2.out; omega] at s2
     obtain ⟨A3,s3,a3⟩:=cut3 gS n2 n3 (N - 2) A2 (by omega) (by have h9:=HNC.out; have h8:=HNW.out; have h7:(x0 :: x1 :: ws).length = ws.length + 2:=rfl; omega) (a2.resolve_left hn2)
     have HA3:=lH a3
     have HK2:=lH u2
     have c5:=prefix_ret last (Nat.le_trans (HZ.out last (List.mem_of_getElem? HLA.out)) hm) true (decide_eq_true hh).symm
     obtain ⟨yy,hyy⟩:∃ z,z = last.extract 1 last.size:=⟨_,rfl⟩
     have HYY:=lH hyy
     clear u2 a2 a3 hn2 hn3 hh hyy
     go_wp2_with fail
     generalize w4.setCell ⟨w.heap.size + 1,1,none⟩ (.string X) = w5 at hc2 hr2 HS2 HW2 ⊢
     have hc:=hc2
     have hr:=hr2
     have HS:=HS2
     have HW:=HW2
     clear hc2 hr2 HS2 HW2 kk ff
     refine (c5).calls ?_
     go_wp2_with fail
     obtain ⟨⟨⟨hu,hv,hx,he⟩,Q1⟩,hQ⟩:∃ z,z = hdR yy.data.toList:=⟨_,rfl⟩
     have c7:=head_mk yy (by rw [HYY.out,ByteArray.size_extract]; have:=HZ.out last (List.mem_of_getElem? HLA.out); omega)
     rw [<- hQ] at c7
     have HQ:=lH hQ
     rw [<- HYY.out]
     clear hQ
     refine c7.calls0 ?_
     intro w9 hq
     replace hr:=lH (hr.out.step hq)
     replace hc:=lH (hc.out.step hq)
     replace HS:=lH (HS.out.step hq)
     replace HW:=lH (HW.out.since hq)
     clear hq
     replace hc:=lH (hr_as hc.out (show _ = #[.int .i64 K,.string X,.slice none 0 0,.string ⟨#[]⟩,.string ⟨#[]⟩,.string ⟨#[]⟩,.string ⟨#[]⟩] by simp))
     have k3:w9.cell? ⟨w.heap.size + 1,3,none⟩ = some (.string ⟨#[]⟩):=hr_cell hc.out 3 _ rfl
     have k4:w9.cell? ⟨w.heap.size + 1,4,none⟩ = some (.string ⟨#[]⟩):=hr_cell hc.out 4 _ rfl
     have k5:w9.cell? ⟨w.heap.size + 1,5,none⟩ = some (.string ⟨#[]⟩):=hr_cell hc.out 5 _ rfl
     have k6:w9.cell? ⟨w.heap.size + 1,6,none⟩ = some (.string ⟨#[]⟩):=hr_cell hc.out 6 _ rfl
     have f3:=hr_free hc.out 3
     have f4:=hr_free hc.out 4
     have f5:=hr_free hc.out 5
     have f6:=hr_free hc.out 6
     have hneA:w.heap.size ≠ w.heap.size + 1:=by omega
     have hneB:gS ≠ w.heap.size + 1:=by rw [HGS.out]; omega
     have hleA:w.heap.size <= w.heap.size + 1:=by omega
     have hcA:=hr_set hc.out 3 (.string hu)
     have hcB:=hr_set hcA 4 (.string hv)
     have hcC:=hr_set hcB 5 (.string hx)
     have hc2:=lH (hr_set hcC 6 (.string he))
     have hr2:=lH (hr_low (hr_low (hr_low (hr_low hr.out hc.out hneA 3 (.string hu)) hcA hneA 4 (.string hv)) hcB hneA 5 (.string hx)) hcC hneA 6 (.string he))
     have HS2:=lH (since_cell (since_cell (since_cell (since_cell HS.out hleA 3 (.string hu)) hleA 4 (.string hv)) hleA 5 (.string hx)) hleA 6 (.string he))
     have HW2:=lH (Wd.set (Wd.set (Wd.set (Wd.set HW.out hc.out hneB 3 (.string hu)) hcA hneB 4 (.string hv)) hcB hneB 5 (.string hx)) hcC hneB 6 (.string he))
     clear hc hr HS HW hcA hcB hcC hneA hneB hleA
     have hpH:headP last.data.toList.tail = if Q1 then some (hu,hv,hx,he) else none:=by
       have h9:=HQ.out
       rw [HYY.out,ext_tail] at h9
       unfold hdR at h9
       cases hp:headP last.data.toList.tail with
       | none => rw [hp] at h9; cases (Prod.mk.inj h9).2; rfl
       | some H => rw [hp] at h9; cases (Prod.mk.inj h9).2; cases (Prod.mk.inj h9).1; rfl
     have HPH:=lH hpH
     clear hpH
     cases Q1 with
     | false =>
       replace HPH:Hid (headP last.data.toList.tail = none):=lH (HPH.out.trans (if_neg Bool.false_ne_true))
       go_wp2_with fail
       generalize (((w9.setCell ⟨w.heap.size + 1,3,none⟩ (.string hu)).setCell ⟨w.heap.size + 1,4,none⟩ (.string hv)).setCell ⟨w.heap.size + 1,5,none⟩ (.string hx)).setCell ⟨w.heap.size + 1,6,none⟩ (.string he) = wA at hc2 hr2 HS2 HW2 ⊢
       have hc:=lH (hr_as hc2.out (show _ = #[.int .i64 K,.string X,.slice none 0 0,.string hu,.string hv,.string hx,.string he] by simp))
       have hr:=hr2
       have HS:=HS2
       have HW:=HW2
       clear hc2 hr2 HS2 HW2 k3 k4 k5 k6 f3 f4 f5 f6
       have HP:Hid (parV t = (noCd,5)):=lH (by
         unfold parV
         rw [HCW.out,cand_3 _ _ _ X _ HK2.out HGL.out HH.out,HPH.out])
       clear s2 s3
       go_step3
       refine ⟨_,rfl, ?_⟩
       have e9:=HRC.out.symm.trans HP.out
       cases e9
       go_wp2_with (refine RwL.at_store (ty:=50) rfl ?_; refine wpList_store_row rfl 50 _ _ rfl w.heap.size Z7 (by rfl) (by rfl) _ _ hr.out.row (r7_info _ _ _ _ _ _ _) rfl (r7_one _ _ _ _ _ _ _ _ _) ?_)
       exact bodyPost_ret (v:=.tuple #[.agg Z7,.int .i64 5]) (results_cell_tmp2 Tryd.results16 _ _ _ _ _ _ _ _ rfl rfl (setRow_heap _ _ _ _ _ _ hr.out.row) Tryd.underlying50 rfl (r7_info _ _ _ _ _ _ _)) rfl ⟨_,rfl,AttsS.nil _,below_setRow HS.out (Nat.le_refl _) _⟩
     | true =>
       replace HPH:Hid (headP last.data.toList.tail = some (hu,hv,hx,he)):=lH (HPH.out.trans (if_pos rfl))
       go_wp2_with fail
       generalize (((w9.setCell ⟨w.heap.size + 1,3,none⟩ (.string hu)).setCell ⟨w.heap.size + 1,4,none⟩ (.string hv)).setCell ⟨w.heap.size + 1,5,none⟩ (.string hx)).setCell ⟨w.heap.size + 1,6,none⟩ (.string he) = wA at hc2 hr2 HS2 HW2 ⊢
       have hc:=lH (hr_as hc2.out (show _ = #[.int .i64 K,.string X,.slice none 0 0,.string hu,.string hv,.string hx,.string he] by simp))
       have hr:=hr2
       have HS:=HS2
       have HW:=HW2
       clear hc2 hr2 HS2 HW2 k3 k4 k5 k6 f3 f4 f5 f6
       obtain ⟨wl,hwl⟩:∃ l,l = ws.dropLast:=⟨_,rfl⟩
       have HWL:=lH hwl
       have HWN:Hid (wl.length <= 1000):=lH (by rw [hwl,List.length_dropLast]; have h7:(x0 :: x1 :: ws).length = ws.length + 2:=rfl; have h8:=HLE.out; have h9:=HNL.out; omega)
       have HZL:Hid (∀ x ∈ wl,x.size <= 1000000):=lH (by rw [hwl]; exact fun x hx => Nat.le_trans (HZ.out x (by simp [List.dropLast_subset ws hx])) hm)
       have HWT:Hid (StrsS wA (.slice A3 n3 (N - 2)) wl):=lH (by
         rw [hwl]
         exact Wd.front HW.out (by rw [<- HNW.out]; exact HN3.out) HA3.out (by have h9:=HNC.out; have h8:=HN3.out; have h6:=HNW.out; have h7:(x0 :: x1 :: ws).length = ws.length + 2:=rfl; omega) (by have:=HNM.out; omega))
       clear hwl
       have hw5:w.heap.size + 1 < wA.heap.size:=(Array.getElem?_eq_some_iff.1 hc.out.row).1
       refine (atts_mk wl HWN.out HZL.out _ _ HWT.out).mono ?_
       rintro _ w6 ⟨y,rfl,hy,hfr,hq⟩
       have hyne:y.ownBlock ≠ some (w.heap.size + 1):=fun e => by have:=hfr _ e; omega
       have hyn2:y.ownBlock ≠ some w.heap.size:=fun e => by have:=hfr _ e; omega
       clear HWT
       replace hr:=lH (hr.out.step hq)
       replace hc:=lH (hc.out.step hq)
       replace HS:=lH (HS.out.step hq)
       replace HW:=lH (HW.out.since hq)
       clear hq
       obtain ⟨Ay,cy,rfl,-,-⟩:=hy.slice
       obtain ⟨⟨M,Q⟩,hMQ⟩:∃ z,z = atR wl:=⟨_,rfl⟩
       rw [<- hMQ] at hy hyne hyn2 ⊢
       have HMQ:=lH hMQ
       dsimp only at hy hyne hyn2 ⊢
       have HY:=lH (show AttsS (w6.setCell ⟨w.heap.size + 1,2,none⟩ (.slice Ay M.length cy)) (.slice Ay M.length cy) M from slr_oth hy hc.out hyne 2 _)
       have HY2:=lH hyn2
       obtain ⟨ny,hny⟩:∃ n,n = M.length:=⟨_,rfl⟩
       rw [<- hny] at HY HY2 ⊢
       clear hMQ hfr hw5 hy hyne hyn2 hny
       have kk:w6.cell? ⟨w.heap.size + 1,2,none⟩ = some (.slice none 0 0):=hr_cell hc.out 2 _ rfl
       have ff:=hr_free hc.out 2
       have hc2:=lH (hr_set hc.out 2 (.slice Ay ny cy))
       have hr2:=lH (hr_low hr.out hc.out (show w.heap.size ≠ w.heap.size + 1 by omega) 2 (.slice Ay ny cy))
       have HS2:=lH (since_cell HS.out (show w.heap.size <= w.heap.size + 1 by omega) 2 (.slice Ay ny cy))
       have HW2:=lH (Wd.set HW.out hc.out (show gS ≠ w.heap.size + 1 by rw [HGS.out]; omega) 2 (.slice Ay ny cy))
       clear hc hr HS HW
       cases Q with
       | false =>
         have HP:Hid (parV t = (noCd,5)):=lH (by
           unfold parV
           rw [HCW.out,cand_3 _ _ _ X _ HK2.out HGL.out HH.out,HPH.out]
           dsimp only
           have h9:=HMQ.out
           rw [HWL.out] at h9
           unfold atR at h9
           rw [<- List.map_dropLast]
           cases ha:attsP (ws.dropLast.map (fun z:ByteArray => z.data.toList)) with
           | none => rfl
           | some M2 => rw [ha] at h9; cases (Prod.mk.inj h9).2)
         clear HY HY2 s2 s3
         go_wp2_with fail
         generalize w6.setCell ⟨w.heap.size + 1,2,none⟩ (.slice Ay ny cy) = w7 at hc2 hr2 HS2 HW2 ⊢
         have hc:=hc2
         have hr:=hr2
         have HS:=HS2
         have HW:=HW2
         clear hc2 hr2 HS2 HW2 kk ff
         go_step3
         refine ⟨_,rfl, ?_⟩
         have e9:=HRC.out.symm.trans HP.out
         cases e9
         go_wp2_with (refine RwL.at_store (ty:=50) rfl ?_; refine wpList_store_row rfl 50 _ _ rfl w.heap.size Z7 (by rfl) (by rfl) _ _ hr.out.row (r7_info _ _ _ _ _ _ _) rfl (r7_one _ _ _ _ _ _ _ _ _) ?_)
         exact bodyPost_ret (v:=.tuple #[.agg Z7,.int .i64 5]) (results_cell_tmp2 Tryd.results16 _ _ _ _ _ _ _ _ rfl rfl (setRow_heap _ _ _ _ _ _ hr.out.row) Tryd.underlying50 rfl (r7_info _ _ _ _ _ _ _)) rfl ⟨_,rfl,AttsS.nil _,below_setRow HS.out (Nat.le_refl _) _⟩
       | true =>
         have hca:candP t.data.toList = some (K,X,M,(hu,hv,hx,he)):=by
           rw [HCW.out,cand_3 _ _ _ X _ HK2.out HGL.out HH.out,HK.out,HPH.out]
           dsimp only
           have h9:=HMQ.out
           rw [HWL.out] at h9
           unfold atR at h9
           rw [<- List.map_dropLast]
           cases ha:attsP (ws.dropLast.map (fun z:ByteArray => z.data.toList)) with
           | none => rw [ha] at h9; cases (Prod.mk.inj h9).2
           | some M2 => rw [ha] at h9; cases (Prod.mk.inj h9).1; rfl
         have HCA:=lH hca
         have hXs:X.size <= 100000:=by
           have h9:=unH_size HK2.out
           have h8:x1.data.toList.length = x1.size:=rfl
           have h7:=HZ.out x1 (by simp)
           have h6:=HM4.out
           omega
         have hsz:hu.size <= 20000 /\ hv.size <= 20000 /\ hx.size <= 20000 /\ he.size <= 20000:=by
           have h9:2 * hu.size <= last.data.toList.tail.length /\ 2 * hv.size <= last.data.toList.tail.length /\ 2 * hx.size <= last.data.toList.tail.length /\ 2 * he.size <= last.data.toList.tail.length:=headP_size HPH.out
           have h8:last.data.toList.length = last.size:=rfl
           have h7:=HZ.out last (List.mem_of_getElem? HLA.out)
           have h6:=HM4.out
           rw [List.length_tail,h8] at h9
           omega
         clear s3
         obtain ⟨T,hTx⟩:∃ T,T = textV K X M hu hv hx he:=⟨_,rfl⟩
         have c6:=text_mk K X hu hv hx he M hXs hsz
         rw [<- hTx] at c6
         have HTX:=lH hTx
         replace hc2:=lH (hr_as hc2.out (show _ = #[.int .i64 K,.string X,.slice Ay ny cy,.string hu,.string hv,.string hx,.string he] by simp))
         have l0:=hr_cell hc2.out 0 _ rfl
         have l1:=hr_cell hc2.out 1 _ rfl
         have l2:=hr_cell hc2.out 2 _ rfl
         have l3:=hr_cell hc2.out 3 _ rfl
         have l4:=hr_cell hc2.out 4 _ rfl
         have l5:=hr_cell hc2.out 5 _ rfl
         have l6:=hr_cell hc2.out 6 _ rfl
         clear hca hXs s2 hTx
         go_wp2_with fail
         generalize w6.setCell ⟨w.heap.size + 1,2,none⟩ (.slice Ay ny cy) = w7 at hc2 hr2 HS2 HW2 HY l0 l1 l2 l3 l4 l5 l6 ⊢
         have hc:=hc2
         have hr:=hr2
         have HS:=HS2
         have HW:=HW2
         clear hc2 hr2 HS2 HW2 kk ff l0 l1 l2 l3 l4 l5 l6
         refine c6.calls0 (Kp.keep HT.out HS.out) HY.out ?_
         intro w8 hq
         replace HY:=lH (AttsS.since HY.out hq)
         replace hr:=lH (hr.out.step hq)
         replace hc:=lH (hc.out.step hq)
         replace HS:=lH (HS.out.step hq)
         replace HW:=lH (HW.out.since hq)
         clear hq
         by_cases hTt:T = t
         · have t1:(T.toList == t.toList) = true:=by rw [hTt]; exact beq_self_eq_true _
           have HP:Hid (parV t = ((K,X,M,(hu,hv,hx,he)),0)):=lH (by
             unfold parV
             rw [HCA.out]
             dsimp only
             rw [if_pos]
             show textV K X M hu hv hx he = t
             rw [<- HTX.out,hTt])
           have l0:=hr_cell hc.out 0 _ rfl
           have l1:=hr_cell hc.out 1 _ rfl
           have l2:=hr_cell hc.out 2 _ rfl
           have l3:=hr_cell hc.out 3 _ rfl
           have l4:=hr_cell hc.out 4 _ rfl
           have l5:=hr_cell hc.out 5 _ rfl
           have l6:=hr_cell hc.out 6 _ rfl
           clear hTt
           go_wp2_with (refine RwL.at_store (ty:=50) rfl ?_; refine wpList_store_row rfl 50 _ _ rfl w.heap.size #[.int .i64 K,.string X,.slice Ay ny cy,.string hu,.string hv,.string hx,.string he] (by rfl) (by rfl) _ _ hr.out.row (r7_info _ _ _ _ _ _ _) rfl (r7_one _ _ _ _ _ _ _ _ _) ?_)
           have e9:=HRC.out.symm.trans HP.out
           cases e9
           simp only [Exit.jumps]
           exact bodyPost_ret (v:=.tuple #[rv K X hu hv hx he (.slice Ay ny cy),.int .i64 0]) (results_cell_tmp2 Tryd.results16 _ _ _ _ _ _ _ _ rfl rfl (setRow_heap _ _ _ _ _ _ hr.out.row) Tryd.underlying50 rfl (r7_info _ _ _ _ _ _ _)) rfl ⟨_,rfl,slr_row HY.out HY2.out _,below_setRow HS.out (Nat.le_refl _) _⟩
         · have t1:(T.toList == t.toList) = false:=str_ne_f hTt
           have HP:Hid (parV t = (noCd,5)):=lH (by
             unfold parV
             rw [HCA.out]
             dsimp only
             rw [if_neg]
             intro h9
             apply hTt
             rw [HTX.out]
             exact h9)
           clear hTt HY
           go_wp2_with fail
           have e9:=HRC.out.symm.trans HP.out
           cases e9
           go_step3
           go_wp2_with (refine RwL.at_store (ty:=50) rfl ?_; refine wpList_store_row rfl 50 _ _ rfl w.heap.size Z7 (by rfl) (by rfl) _ _ hr.out.row (r7_info _ _ _ _ _ _ _) rfl (r7_one _ _ _ _ _ _ _ _ _) ?_)
           (try simp only [Exit.jumps])
           exact bodyPost_ret (v:=.tuple #[.agg Z7,.int .i64 5]) (results_cell_tmp2 Tryd.results16 _ _ _ _ _ _ _ _ rfl rfl (setRow_heap _ _ _ _ _ _ hr.out.row) Tryd.underlying50 rfl (r7_info _ _ _ _ _ _ _)) rfl ⟨_,rfl,AttsS.nil _,below_setRow HS.out (Nat.le_refl _) _⟩
   · have hK2:unH x1.data.toList = some X:=u2
     have HK2:=lH hK2
     clear u2 hK2
     obtain ⟨A2,s2,a2⟩:=cut2 gS n2 N (by have h9:=HNC.out; have h8:=HNW.out; have h7:(x0 :: x1 :: ws).length = ws.length + 2:=rfl; omega)
     rw [show n2 + 2 = n by have:=HN1.out; have:=HN2.out; omega] at s2
     have HA2:=lH a2
     clear a2
     have c5:=prefix_ret last (Nat.le_trans (HZ.out last (List.mem_of_getElem? HLA.out)) hm) false (decide_eq_false hh).symm
     go_wp2_with fail
     generalize w4.setCell ⟨w.heap.size + 1,1,none⟩ (.string X) = w5 at hc2 hr2 HS2 HW2 ⊢
     have hc:=hc2
     have hr:=hr2
     have HS:=HS2
     have HW:=HW2
     clear hc2 hr2 HS2 HW2 kk ff
     refine (c5).calls ?_
     go_wp2_with fail
     obtain ⟨wl,hwl⟩:∃ l,l = ws:=⟨_,rfl⟩
     have HWL:=lH hwl
     have HWN:Hid (wl.length <= 1000):=lH (by rw [hwl]; have h7:(x0 :: x1 :: ws).length = ws.length + 2:=rfl; have h8:=HLE.out; have h9:=HNL.out; omega)
     have HZL:Hid (∀ x ∈ wl,x.size <= 1000000):=lH (by rw [hwl]; exact fun x hx => Nat.le_trans (HZ.out x (by simp [hx])) hm)
     have HWT:Hid (StrsS w5 (.slice A2 n2 (N - 2)) wl):=lH (by
       rw [hwl]
       have h9:=Wd.tail HW.out (A:=A2) (c:=N - 2) (by rw [<- HNW.out]; exact HA2.out) (by have h9:=HNC.out; have h7:(x0 :: x1 :: ws).length = ws.length + 2:=rfl; omega) (by have:=HNM.out; omega)
       rw [<- HNW.out] at h9
       exact h9)
     clear hwl
     have hw5:w.heap.size + 1 < w5.heap.size:=(Array.getElem?_eq_some_iff.1 hc.out.row).1
     refine (atts_mk wl HWN.out HZL.out _ _ HWT.out).mono ?_
     rintro _ w6 ⟨y,rfl,hy,hfr,hq⟩
     have hyne:y.ownBlock ≠ some (w.heap.size + 1):=fun e => by have:=hfr _ e; omega
     have hyn2:y.ownBlock ≠ some w.heap.size:=fun e => by have:=hfr _ e; omega
     clear HWT
     replace hr:=lH (hr.out.step hq)
     replace hc:=lH (hc.out.step hq)
     replace HS:=lH (HS.out.step hq)
     replace HW:=lH (HW.out.since hq)
     clear hq
     obtain ⟨Ay,cy,rfl,-,-⟩:=hy.slice
     obtain ⟨⟨M,Q⟩,hMQ⟩:∃ z,z = atR wl:=⟨_,rfl⟩
     rw [<- hMQ] at hy hyne hyn2 ⊢
     have HMQ:=lH hMQ
     dsimp only at hy hyne hyn2 ⊢
     have HY:=lH (show AttsS (w6.setCell ⟨w.heap.size + 1,2,none⟩ (.slice Ay M.length cy)) (.slice Ay M.length cy) M from slr_oth hy hc.out hyne 2 _)
     have HY2:=lH hyn2
     obtain ⟨ny,hny⟩:∃ n,n = M.length:=⟨_,rfl⟩
     rw [<- hny] at HY HY2 ⊢
     clear hMQ hfr hw5 hy hyne hyn2 hny
     have kk:w6.cell? ⟨w.heap.size + 1,2,none⟩ = some (.slice none 0 0):=hr_cell hc.out 2 _ rfl
     have ff:=hr_free hc.out 2
     have hc2:=lH (hr_set hc.out 2 (.slice Ay ny cy))
     have hr2:=lH (hr_low hr.out hc.out (show w.heap.size ≠ w.heap.size + 1 by omega) 2 (.slice Ay ny cy))
     have HS2:=lH (since_cell HS.out (show w.heap.size <= w.heap.size + 1 by omega) 2 (.slice Ay ny cy))
     have HW2:=lH (Wd.set HW.out hc.out (show gS ≠ w.heap.size + 1 by rw [HGS.out]; omega) 2 (.slice Ay ny cy))
     clear hc hr HS HW
     cases Q with
     | false =>
       have HP:Hid (parV t = (noCd,5)):=lH (by
         unfold parV
         rw [HCW.out,cand_2 _ _ _ X _ HK2.out HGL.out hh]
         have h9:=HMQ.out
         rw [HWL.out] at h9
         unfold atR at h9
         cases ha:attsP (ws.map (fun z:ByteArray => z.data.toList)) with
         | none => rfl
         | some M2 => rw [ha] at h9; cases (Prod.mk.inj h9).2)
       clear HY HY2 s2
       go_wp2_with fail
       generalize w6.setCell ⟨w.heap.size + 1,2,none⟩ (.slice Ay ny cy) = w7 at hc2 hr2 HS2 HW2 ⊢
       have hc:=hc2
       have hr:=hr2
       have HS:=HS2
       have HW:=HW2
       clear hc2 hr2 HS2 HW2 kk ff
       go_step3
       refine ⟨_,rfl, ?_⟩
       have e9:=HRC.out.symm.trans HP.out
       cases e9
       go_wp2_with (refine RwL.at_store (ty:=50) rfl ?_; refine wpList_store_row rfl 50 _ _ rfl w.heap.size Z7 (by rfl) (by rfl) _ _ hr.out.row (r7_info _ _ _ _ _ _ _) rfl (r7_one _ _ _ _ _ _ _ _ _) ?_)
       exact bodyPost_ret (v:=.tuple #[.agg Z7,.int .i64 5]) (results_cell_tmp2 Tryd.results16 _ _ _ _ _ _ _ _ rfl rfl (setRow_heap _ _ _ _ _ _ hr.out.row) Tryd.underlying50 rfl (r7_info _ _ _ _ _ _ _)) rfl ⟨_,rfl,AttsS.nil _,below_setRow HS.out (Nat.le_refl _) _⟩
     | true =>
       have hca:candP t.data.toList = some (K,X,M,noH):=by
         rw [HCW.out,cand_2 _ _ _ X _ HK2.out HGL.out hh,HK.out]
         have h9:=HMQ.out
         rw [HWL.out] at h9
         unfold atR at h9
         cases ha:attsP (ws.map (fun z:ByteArray => z.data.toList)) with
         | none => rw [ha] at h9; cases (Prod.mk.inj h9).2
         | some M2 => rw [ha] at h9; cases (Prod.mk.inj h9).1; rfl
       have HCA:=lH hca
       have hXs:X.size <= 100000:=by
         have h9:=unH_size HK2.out
         have h8:x1.data.toList.length = x1.size:=rfl
         have h7:=HZ.out x1 (by simp)
         have h6:=HM4.out
         omega
       obtain ⟨T,hTx⟩:∃ T,T = textV K X M ⟨#[]⟩ ⟨#[]⟩ ⟨#[]⟩ ⟨#[]⟩:=⟨_,rfl⟩
       have c6:=text_mk K X ⟨#[]⟩ ⟨#[]⟩ ⟨#[]⟩ ⟨#[]⟩ M hXs ⟨by decide,by decide,by decide,by decide⟩
       rw [<- hTx] at c6
       have HTX:=lH hTx
       replace hc2:=lH (hr_as hc2.out (show _ = #[.int .i64 K,.string X,.slice Ay ny cy,.string ⟨#[]⟩,.string ⟨#[]⟩,.string ⟨#[]⟩,.string ⟨#[]⟩] by simp))
       have l0:=hr_cell hc2.out 0 _ rfl
       have l1:=hr_cell hc2.out 1 _ rfl
       have l2:=hr_cell hc2.out 2 _ rfl
       have l3:=hr_cell hc2.out 3 _ rfl
       have l4:=hr_cell hc2.out 4 _ rfl
       have l5:=hr_cell hc2.out 5 _ rfl
       have l6:=hr_cell hc2.out 6 _ rfl
       clear hca hXs s2 hTx
       go_wp2_with fail
       generalize w6.setCell ⟨w.heap.size + 1,2,none⟩ (.slice Ay ny cy) = w7 at hc2 hr2 HS2 HW2 HY l0 l1 l2 l3 l4 l5 l6 ⊢
       have hc:=hc2
       have hr:=hr2
       have HS:=HS2
       have HW:=HW2
       clear hc2 hr2 HS2 HW2 kk ff l0 l1 l2 l3 l4 l5 l6
       refine c6.calls0 (Kp.keep HT.out HS.out) HY.out ?_
       intro w8 hq
       replace HY:=lH (AttsS.since HY.out hq)
       replace hr:=lH (hr.out.step hq)
       replace hc:=lH (hc.out.step hq)
       replace HS:=lH (HS.out.step hq)
       replace HW:=lH (HW.out.since hq)
       clear hq
       by_cases hTt:T = t
       · have t1:(T.toList == t.toList) = true:=by rw [hTt]; exact beq_self_eq_true _
         have HP:Hid (parV t = ((K,X,M,noH),0)):=lH (by
           unfold parV
           rw [HCA.out]
           dsimp only
           rw [if_pos]
           show textV K X M ⟨#[]⟩ ⟨#[]⟩ ⟨#[]⟩ ⟨#[]⟩ = t
           rw [<- HTX.out,hTt])
         have l0:=hr_cell hc.out 0 _ rfl
         have l1:=hr_cell hc.out 1 _ rfl
         have l2:=hr_cell hc.out 2 _ rfl
         have l3:=hr_cell hc.out 3 _ rfl
         have l4:=hr_cell hc.out 4 _ rfl
         have l5:=hr_cell hc.out 5 _ rfl
         have l6:=hr_cell hc.out 6 _ rfl
         clear hTt
         go_wp2_with (refine RwL.at_store (ty:=50) rfl ?_; refine wpList_store_row rfl 50 _ _ rfl w.heap.size #[.int .i64 K,.string X,.slice Ay ny cy,.string ⟨#[]⟩,.string ⟨#[]⟩,.string ⟨#[]⟩,.string ⟨#[]⟩] (by rfl) (by rfl) _ _ hr.out.row (r7_info _ _ _ _ _ _ _) rfl (r7_one _ _ _ _ _ _ _ _ _) ?_)
         have e9:=HRC.out.symm.trans HP.out
         cases e9
         simp only [Exit.jumps]
         exact bodyPost_ret (v:=.tuple #[rv K X ⟨#[]⟩ ⟨#[]⟩ ⟨#[]⟩ ⟨#[]⟩ (.slice Ay ny cy),.int .i64 0]) (results_cell_tmp2 Tryd.results16 _ _ _ _ _ _ _ _ rfl rfl (setRow_heap _ _ _ _ _ _ hr.out.row) Tryd.underlying50 rfl (r7_info _ _ _ _ _ _ _)) rfl ⟨_,rfl,slr_row HY.out HY2.out _,below_setRow HS.out (Nat.le_refl _) _⟩
       · have t1:(T.toList == t.toList) = false:=str_ne_f hTt
         have HP:Hid (parV t = (noCd,5)):=lH (by
           unfold parV
           rw [HCA.out]
           dsimp only
           rw [if_neg]
           intro h9
           apply hTt
           rw [HTX.out]
           exact h9)
         clear hTt HY
         go_wp2_with fail
         have e9:=HRC.out.symm.trans HP.out
         cases e9
         go_step3
         go_wp2_with (refine RwL.at_store (ty:=50) rfl ?_; refine wpList_store_row rfl 50 _ _ rfl w.heap.size Z7 (by rfl) (by rfl) _ _ hr.out.row (r7_info _ _ _ _ _ _ _) rfl (r7_one _ _ _ _ _ _ _ _ _) ?_)
         (try simp only [Exit.jumps])
         exact bodyPost_ret (v:=.tuple #[.agg Z7,.int .i64 5]) (results_cell_tmp2 Tryd.results16 _ _ _ _ _ _ _ _ rfl rfl (setRow_heap _ _ _ _ _ _ hr.out.row) Tryd.underlying50 rfl (r7_info _ _ _ _ _ _ _)) rfl ⟨_,rfl,AttsS.nil _,below_setRow HS.out (Nat.le_refl _) _⟩
theorem parse_k (t:ByteArray) (hm:t.size <= 40000):ParR 16 t (parV t).1 (parV t).2:=by
 by_cases h:2 <= (Sp.splN 32 36 t.data.toList).length
 · exact parse_two t hm h _ _ rfl
 · have hv:parV t = (noCd,5):=by
     unfold parV candP
     match hw:Sp.splN 32 36 t.data.toList,h with
     | [],_ => rfl
     | [_],_ => rfl
     | _ :: _ :: _,h => exact absurd (by show 2 <= _ + 1 + 1; omega) h
   rw [hv]
   exact par_1 t (by omega) (by omega)
end Rcd
end Go.Proofs.YtcdjfmlanicjlaaDoor
