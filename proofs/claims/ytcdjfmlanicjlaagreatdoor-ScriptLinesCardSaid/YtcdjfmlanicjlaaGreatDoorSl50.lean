import Derived.Test.YtcdjfmlanicjlaaGreatDoorSl19
import Derived.Test.YtcdjfmlanicjlaaGreatDoorSl46
set_option maxRecDepth 100000
namespace Go.Proofs.YtcdjfmlanicjlaaGreatDoor
open Go.RowKit
namespace Rcd
open Att Kind Rec Atf Rw
theorem unhex_m (s:ByteArray) (hm:s.size <= 140737488355328):∃ X B,Mak 21 #[.string s] (.tuple #[.string X,.bool B]) /\ unH s.data.toList = if B = true then some X else none:=by
 have hl:s.data.toList.length = s.size:=rfl
 by_cases h:s.size % 2 = 0
 · have e:Dig.unB s.data.toList = Dig.okN s.data.toList (s.size / 2):=by
     unfold Dig.unB
     rw [hl,decide_eq_true h,Bool.true_and]
   exact ⟨Dig.unS s.data.toList,Dig.unB s.data.toList,fun w => Dig.unhex_even s (s.size / 2) w hm (by omega) _ _ e (by unfold Dig.unS; rw [e,hl]),rfl⟩
 · refine ⟨⟨#[]⟩,false,fun w => Dig.unhex_odd s w hm (by omega), ?_⟩
   unfold unH Dig.unB
   rw [hl,decide_eq_false h,Bool.false_and]
   rfl
theorem unnum_m (s:ByteArray) (hm:s.size <= 140737488355328):∃ V B,Mak 66 #[.string s] (.tuple #[.int .i64 V,.bool B]) /\ unN s.data.toList = if B = true then some V else none:=by
 have hl:s.data.toList.length = s.size:=rfl
 by_cases h:s.size <= 20
 · by_cases h2:Dig.numS (Dig.unV s.data.toList) = s.data.toList
   · have h3:bs (Dig.numS (Dig.unV s.data.toList)) = s:=by rw [h2]; exact ba_ext rfl
     refine ⟨_,_,fun w => Dig.unnum_short s w h _ _ true rfl (decide_eq_true h3).symm rfl, ?_⟩
     unfold unN
     rw [if_pos ⟨by omega,h2⟩,if_pos rfl,if_pos h3]
   · have h3:¬ bs (Dig.numS (Dig.unV s.data.toList)) = s:=fun h4 => h2 (by
       have h5:=congrArg (fun z:ByteArray => z.data.toList) h4
       exact h5)
     refine ⟨_,_,fun w => Dig.unnum_short s w h _ _ false rfl (decide_eq_false h3).symm rfl, ?_⟩
     unfold unN
     rw [if_neg fun h4 => h2 h4.2]
     rfl
 · refine ⟨0,false,fun w => Dig.unnum_long s w hm (by omega), ?_⟩
   unfold unN
   rw [if_neg fun h4 => h (by omega)]
   rfl
def WordR (x:ByteArray):Prop:=∃ l r f t ok v fine,Mak 18 #[.string x,.string ⟨#[61]⟩] (.tuple #[.string l,.string r,.bool f]) /\ Mak 66 #[.string l] (.tuple #[.int .i64 t,.bool ok]) /\ Mak 21 #[.string r] (.tuple #[.string v,.bool fine]) /\
 ((f = false /\ attP x.data.toList = none) ∨ (f = true /\ ok = false /\ attP x.data.toList = none) ∨ (f = true /\ ok = true /\ fine = false /\ attP x.data.toList = none) ∨ (f = true /\ ok = true /\ fine = true /\ attP x.data.toList = some (t,v)))
theorem word_r (x:ByteArray) (hm:x.size <= 1000000):WordR x:=by
 by_cases h:(61:UInt8) ∈ x.data.toList
 · obtain ⟨k,h1,h2,h3⟩:=Sp.at_ex _ _ h
   have hk:k < x.data.toList.length:=(List.getElem?_eq_some_iff.1 h1.1).1
   have hz:x.size = x.data.toList.length:=rfl
   have c1:=Cut.cut_at x 61 k (by omega) h1 _ _ rfl rfl
   have e1:(x.extract 0 k).data.toList = x.data.toList.take k:=Lib.extract_from_zero x k
   have e2:(x.extract (k + 1) x.size).data.toList = x.data.toList.drop (k + 1):=by
     rw [ByteArray.data_extract,Array.toList_extract]
     unfold List.extract
     rw [List.take_of_length_le (by rw [List.length_drop]; omega)]
   obtain ⟨t,ok,c2,u2⟩:=unnum_m (x.extract 0 k) (by rw [ByteArray.size_extract]; omega)
   obtain ⟨v,fine,c3,u3⟩:=unhex_m (x.extract (k + 1) x.size) (by rw [ByteArray.size_extract]; omega)
   rw [e1] at u2
   rw [e2] at u3
   have e:attP x.data.toList = match unN (x.data.toList.take k),unH (x.data.toList.drop (k + 1)) with
       | some t,some v => some (t,v)
       | _,_ => none:=by
     unfold attP
     obtain ⟨b,r,hb⟩:∃ b r,Sp.pcs 61 (x.data.toList.drop (k + 1)) = b :: r:=by
       cases hp:Sp.pcs 61 (x.data.toList.drop (k + 1)) with
       | nil => exact absurd hp (Sp.pcs_ne _ _)
       | cons b r => exact ⟨b,r,rfl⟩
     have hj:=Sp.join_pcs 61 (x.data.toList.drop (k + 1))
     rw [hb] at hj
     have hp:Sp.pcs 61 x.data.toList = x.data.toList.take k :: b :: r:=by
       conv => lhs; rw [h2]
       rw [Sp.pcs_cut 61 _ _ h3,hb]
     rw [hp]
     dsimp only
     rw [hj]
     cases unN (x.data.toList.take k) <;> cases unH (x.data.toList.drop (k + 1)) <;> rfl
   rw [u2,u3] at e
   refine ⟨_,_,true,t,ok,v,fine,c1,c2,c3, ?_⟩
   cases ok with
   | false => exact Or.inr (Or.inl ⟨rfl,rfl,e⟩)
   | true => cases fine with
     | false => exact Or.inr (Or.inr (Or.inl ⟨rfl,rfl,rfl,e⟩))
     | true => exact Or.inr (Or.inr (Or.inr ⟨rfl,rfl,rfl,e⟩))
 · have c1:=(Cut.cut_none x 61 h).mak
   obtain ⟨t,ok,c2,-⟩:=unnum_m x (by omega)
   obtain ⟨v,fine,c3,-⟩:=unhex_m ⟨#[]⟩ (by decide)
   refine ⟨_,_,false,t,ok,v,fine,c1,c2,c3,Or.inl ⟨rfl, ?_⟩⟩
   unfold attP
   rw [Sp.pcs_one 61 _ h]
theorem attsP_snoc (ws:List (List UInt8)) (w:List UInt8) (L:List A2) (a:A2) (h:attsP ws = some L) (ha:attP w = some a):attsP (ws ++ [w]) = some (L ++ [a]):=by
 induction ws generalizing L with
 | nil =>
   cases h
   show (match attP w with
     | none => none
     | some a => match attsP [] with
       | none => none
       | some L => some (a :: L)) = _
   rw [ha]; rfl
 | cons x ws ih =>
   rw [attsP] at h
   rw [List.cons_append,attsP]
   cases hx:attP x with
   | none => rw [hx] at h; cases h
   | some b =>
     rw [hx] at h
     dsimp only at h ⊢
     cases hs:attsP ws with
     | none => rw [hs] at h; cases h
     | some M =>
       rw [hs] at h
       cases h
       rw [ih M hs]; rfl
theorem attsP_bad (ws:List (List UInt8)) (w:List UInt8) (hw:w ∈ ws) (ha:attP w = none):attsP ws = none:=by
 induction ws with
 | nil => cases hw
 | cons x ws ih =>
   rw [attsP]
   rcases List.mem_cons.1 hw with rfl | hw
   · rw [ha]
   · cases attP x with
     | none => rfl
     | some a => rw [ih hw]
def atR (ws:List ByteArray):List A2 × Bool:=match attsP (ws.map (·.data.toList)) with
 | some L => (L,true)
 | none => ([],false)
set_option maxHeartbeats 4000000 in
theorem atts_mk (ws:List ByteArray) (hm:ws.length <= 1000) (hz:∀ x ∈ ws,x.size <= 1000000) (w:World) (x:Value) (hx:StrsS w x ws):Calls Tryz.prog 43 #[x] w fun e w' => ∃ y,e = .returned (.tuple #[y,.bool (atR ws).2]) /\ AttsS w' y (atR ws).1 /\ (∀ b,y.ownBlock = some b -> w.heap.size <= b) /\ Since w w':=by
 obtain ⟨A,c,rfl,-,-⟩:=SlR.slice hx
 obtain ⟨n,hn⟩:∃ n,n = ws.length:=⟨_,rfl⟩
 have HN:=lH hn
 have HZ:=lH (fun y hy => word_r y (hz y hy))
 have HX:=lH hx
 have HS0:=lH (Since.refl w)
 rw [<- hn] at hm ⊢
 clear hx hz hn
 go_enter Tryz.func43,Tryz.ntmps43
 go_wp2_with fail
 go_loopw [4,16] (fun V i wr => ∃ (k:Nat) (M:List A2),k <= n /\ i = .int .i64 (k:Int) /\ Hid (M.length = k) /\ Hid (attsP ((ws.take k).map (·.data.toList)) = some M) /\ Hid (ARow w wr V M) /\ Hid (Since w wr)) (fun _ i _ => n - (intOf i).toNat)
 case atStart => exact ⟨0,[],Nat.zero_le _,rfl,lH rfl,lH rfl,lH (ARow.nil _ _),HS0⟩
 case round =>
   clear HS0
   obtain ⟨k,M,hk,rfl,HL,HA,HR,HS⟩:=hrel
   obtain ⟨VA,vc,rfl,-⟩:=HR.out.val
   rw [HL.out]
   by_cases hlt:k < n
   · obtain ⟨s,hs⟩:∃ s,ws[k]? = some s:=⟨_,List.getElem?_eq_getElem (by rw [<- HN.out]; exact hlt)⟩
     obtain ⟨b,o,c9,hv,f1,f2,f3,f4⟩:=SlR.form HX.out (by rw [<- HN.out]; omega)
     obtain ⟨rfl,-,rfl⟩:=Value.slice.inj hv
     have m0:=(Below.cell HS.out (p:=⟨b,o + k,none⟩) f3).trans (f4 k (.string s) (by rw [List.getElem?_map,hs]; rfl))
     obtain ⟨l,r,f,t,ok,v,fine,c1,c2,c3,hq⟩:=HZ.out s (List.mem_of_getElem? hs)
     have HTS:=lH (Att.take_snoc ws k s hs)
     have HMM:=lH (List.mem_of_getElem? hs)
     have i1:(0:Int) <= (k:Int):=by omega
     have i2:(k:Int) < (n:Int):=by omega
     clear hs hv f1 f2 f3 f4
     go_wp2_with fail
     refine c1.calls0 ?_
     intro w1 h1
     replace HR:=lH (HR.out.since h1)
     replace HS:=lH (HS.out.step h1)
     clear h1 m0
     go_wp2_with fail
     refine c2.calls0 ?_
     intro w2 h1
     replace HR:=lH (HR.out.since h1)
     replace HS:=lH (HS.out.step h1)
     clear h1
     go_wp2_with fail
     refine c3.calls0 ?_
     intro w4 h1
     replace HR:=lH (HR.out.since h1)
     replace HS:=lH (HS.out.step h1)
     clear h1 c1 c2 c3
     have bad:attP s.data.toList = none -> Hid (atR ws = ([],false)):=fun hb => lH (by
       unfold atR
       rw [attsP_bad _ s.data.toList (List.mem_map.2 ⟨s,HMM.out,rfl⟩) hb])
     rcases hq with ⟨rfl,hb⟩ | ⟨rfl,rfl,hb⟩ | ⟨rfl,rfl,rfl,hb⟩ | ⟨rfl,rfl,rfl,hb⟩
     · have HB:=bad hb
       clear bad hb HR
       go_wp2_with fail
       go_ret2
       rw [HB.out]
       exact ⟨_,rfl,AttsS.nil _,(fun b h => by cases h),HS.out⟩
     · have HB:=bad hb
       clear bad hb HR
       go_wp2_with fail
       go_ret2
       rw [HB.out]
       exact ⟨_,rfl,AttsS.nil _,(fun b h => by cases h),HS.out⟩
     · have HB:=bad hb
       clear bad hb HR
       go_wp2_with fail
       go_ret2
       rw [HB.out]
       exact ⟨_,rfl,AttsS.nil _,(fun b h => by cases h),HS.out⟩
     · have HB:=lH hb
       have HB1:=lH (show k + 1 <= maxLen by unfold maxLen; omega)
       have HB2:=lH (show (k + 1) * 24 <= 140737488355328 by omega)
       have HR9:=lH (show Rw.Rows w4 w.heap.size (([]:List Rw.Row) ++ ⟨91,2,.slice VA k vc,k,M.flatMap ac⟩ :: []) by have h9:=HR.out; unfold ARow at h9; rw [HL.out] at h9; exact h9)
       clear bad hb HR
       go_wp2_with (at_builtin; refine app_rows elemAt rfl _ _ (by rfl) w w4 _ rfl [] [] _ k _ (by rfl) HR9.out HS.out #[.int .i64 t,.string v] 1 1 (by rfl) rfl (ac_one (t,v)) HB1.out HB2.out ?_; intro V2 w5 HQ2 HT2 HK2)
       have HF:Hid (ARow w w5 V2 (M ++ [(t,v)])):=lH (ARow.app (t,v) (by rw [HL.out]; exact HQ2))
       have HS5:=lH HT2
       have HA5:Hid (attsP ((ws.take (k + 1)).map (·.data.toList)) = some (M ++ [(t,v)])):=lH (by
         rw [HTS.out,List.map_append]
         exact attsP_snoc _ _ _ _ HA.out HB.out)
       have HL5:Hid ((M ++ [(t,v)]).length = k + 1):=lH (by rw [List.length_append,HL.out]; rfl)
       clear HQ2 HT2 HK2
       go_wp2_with fail
       go_roundw
       case rel => exact ⟨k + 1,_,by omega,by go_num,HL5,HA5,HF,HS5⟩
       case measure => (simp [intOf] <;> omega)
   · obtain rfl:n = k:=by omega
     have ht:ws.take n = ws:=by rw [HN.out,List.take_length]
     have HE:Hid (atR ws = (M,true)):=lH (by
       have h9:=HA.out
       rw [ht] at h9
       unfold atR
       rw [h9])
     have HV:=lH HR.out.atts
     have HFr:=lH (show ∀ b,(Value.slice VA M.length vc).ownBlock = some b -> w.heap.size <= b from fun b hb => (World.ownsRow.lt (Rw.Rows.get HR.out) b hb).1)
     rw [HL.out] at HV HFr
     clear HR ht
     go_wp2_with fail
     go_ret2
     rw [HE.out]
     exact ⟨_,rfl,by have h9:=HV.out; exact h9,HFr.out,HS.out⟩
end Rcd
namespace Rcd
open Att Kind Rec Atf Rw Flt Tlv
theorem four {α:Type} {l:List α} (h:l.length = 4):∃ a b c d,l = [a,b,c,d]:=by
 match l,h with
 | [a,b,c,d],_ => exact ⟨a,b,c,d,rfl⟩
abbrev Hd:=ByteArray × ByteArray × ByteArray × ByteArray
abbrev hdv (h:Hd):Value:=.agg #[.string h.1,.string h.2.1,.string h.2.2.1,.string h.2.2.2]
def hdR (t:List UInt8):Hd × Bool:=match headP t with
 | some h => (h,true)
 | none => (noH,false)
theorem h4_info (a b c d:Value):(Tryz.prog.info? 58).map (·.size) = some (#[a,b,c,d]:Array Value).size:=by kernel_rfl
theorem h4_one (a b c d:ByteArray):(#[.string a,.string b,.string c,.string d]:Array Value).all (·.oneCell') = true:=by
 rw [Array.all_eq_true]
 intro k hk
 match k,hk with
 | 0,_ | 1,_ | 2,_ | 3,_ => rfl
set_option maxHeartbeats 4000000 in
theorem head_few (t:ByteArray) (hm:t.size <= 1000000) (hn:(Sp.splN 44 5 t.data.toList).length ≠ 4) (w:World):Calls Tryz.prog 42 #[.string t] w fun e w' => e = .returned (.tuple #[hdv noH,.bool false]) /\ Since w w':=by
 have HN:=lH hn
 have c1:=fun w => Sp.splitN_mk t 44 5 (by decide) (by decide) hm w
 have hr:=lH (show HR w w.heap.size #[.string ⟨#[]⟩,.string ⟨#[]⟩,.string ⟨#[]⟩,.string ⟨#[]⟩] 58 (w.alloc (.cells #[.string ⟨#[]⟩,.string ⟨#[]⟩,.string ⟨#[]⟩,.string ⟨#[]⟩] 58)) from ⟨heap_alloc_new w _⟩)
 have HS:=lH ((Since.refl w).alloc (.cells #[.string ⟨#[]⟩,.string ⟨#[]⟩,.string ⟨#[]⟩,.string ⟨#[]⟩] 58))
 replace hr:=lH (hr_old hr.out (.cells #[.string ⟨#[]⟩,.string ⟨#[]⟩,.string ⟨#[]⟩,.string ⟨#[]⟩] 96))
 replace HS:=lH (HS.out.alloc (.cells #[.string ⟨#[]⟩,.string ⟨#[]⟩,.string ⟨#[]⟩,.string ⟨#[]⟩] 96))
 clear hn hm
 go_enter Tryz.func42,Tryz.ntmps42
 go_wp2_with fail
 refine (c1 _).mono ?_
 rintro _ w1 ⟨q,L,rfl,hv,hL,-,h1⟩
 obtain ⟨n,hn⟩:∃ n,n = L.length:=⟨_,rfl⟩
 have hne:n ≠ 4:=by
   rw [hn,<- List.length_map (f:=fun x:ByteArray => x.data.toList),hL]
   exact HN.out
 rw [<- hn]
 have t1:((n:Int) != 4) = true:=bne_iff_ne.2 (by omega)
 replace hr:=lH (hr.out.step h1)
 replace HS:=lH (HS.out.step h1)
 clear hv hL hn h1 hne
 go_wp2_with (refine RwL.at_store (ty:=58) rfl ?_; refine wpList_store_row rfl 58 _ _ rfl w.heap.size #[.string ⟨#[]⟩,.string ⟨#[]⟩,.string ⟨#[]⟩,.string ⟨#[]⟩] (by rfl) (by rfl) _ _ hr.out.row (h4_info _ _ _ _) rfl (h4_one _ _ _ _) ?_)
 exact bodyPost_ret (v:=.tuple #[hdv noH,.bool false]) (results_cell_tmp2 Tryz.results42 _ _ _ _ _ _ _ _ rfl rfl (setRow_heap _ _ _ _ _ _ hr.out.row) Tryz.underlying58 rfl (h4_info _ _ _ _)) rfl ⟨rfl,below_setRow HS.out (Nat.le_refl _) _⟩
theorem hr_set {w W:World} {g:Nat} {C:Array Value} {t:TypeId} (h:HR w g C t W) (k:Nat) (v:Value):HR w g (C.setIfInBounds k v) t (W.setCell ⟨g,k,none⟩ v):=⟨by rw [Go.setCell_eq_setRow W g k C t _ v h.row]; exact setRow_heap _ _ _ _ _ _ h.row⟩
theorem hr_free {w W:World} {g:Nat} {C:Array Value} {t:TypeId} (h:HR w g C t W) (k:Nat):W.frozen? ⟨g,k,none⟩ = false:=by simp [World.frozen?,h.row]
theorem hr_oth {w W:World} {g k:Nat} {C:Array Value} {t:TypeId} (h:HR w k C t W) (hne:k ≠ g) (new:Array Value):HR w k C t (W.setRow g new):=⟨(setRow_other _ _ _ _ hne).trans h.row⟩
theorem hr_low {w w' W:World} {g k:Nat} {C C':Array Value} {t t':TypeId} (h:HR w k C t W) (hg:HR w' g C' t' W) (hne:k ≠ g) (j:Nat) (v:Value):HR w k C t (W.setCell ⟨g,j,none⟩ v):=by
 rw [Go.setCell_eq_setRow W g j C' t' _ v hg.row]
 exact hr_oth h hne _
theorem since_cell {w W:World} (h:Since w W) {g:Nat} (hg:w.heap.size <= g) (k:Nat) (v:Value):Since w (W.setCell ⟨g,k,none⟩ v):=Below.setCell h hg v
theorem lt_cell {W:World} {g o:Nat} {v:Value} (h:W.cell? ⟨g,o,none⟩ = some v):g < W.heap.size:=by
 rcases Nat.lt_or_ge g W.heap.size with h1 | h1
 · exact h1
 · simp [World.cell?,Array.getElem?_eq_none h1] at h
theorem cell_setRow {W:World} {g g1 k:Nat} {cells:Array Value} (h:g1 ≠ g):(W.setRow g cells).cell? ⟨g1,k,none⟩ = W.cell? ⟨g1,k,none⟩:=by
 have h1:=setRow_other W g g1 cells h
 simp [World.cell?,h1]
theorem hdR_4 (t:List UInt8) (a b c d:List UInt8) (h:Sp.splN 44 5 t = [a,b,c,d]):headP t = match unH a,unH b,unH c,unH d with
   | some u,some m,some v,some e => some (u,m,v,e)
   | _,_,_,_ => none:=by
 unfold headP
 rw [h]
 dsimp only
 cases unH a <;> cases unH b <;> cases unH c <;> cases unH d <;> rfl
theorem hdR_bad (t:List UInt8) (a b c d x:List UInt8) (h:Sp.splN 44 5 t = [a,b,c,d]) (hx:x ∈ [a,b,c,d]) (hn:unH x = none):hdR t = (noH,false):=by
 unfold hdR
 rw [hdR_4 t a b c d h]
 simp only [List.mem_cons,List.not_mem_nil,or_false] at hx
 rcases hx with rfl | rfl | rfl | rfl
 · rw [hn]
 · rw [hn]; cases unH a <;> cases unH c <;> cases unH d <;> rfl
 · rw [hn]; cases unH a <;> cases unH b <;> cases unH d <;> rfl
 · rw [hn]; cases unH a <;> cases unH b <;> cases unH c <;> rfl
set_option maxHeartbeats 8000000 in
theorem head_4 (t:ByteArray) (hm:t.size <= 1000000) (hn:(Sp.splN 44 5 t.data.toList).length = 4) (w:World):Calls Tryz.prog 42 #[.string t] w fun e w' => e = .returned (.tuple #[hdv (hdR t.data.toList).1,.bool (hdR t.data.toList).2]) /\ Since w w':=by
 have HN:=lH hn
 have HM:=lH hm
 have c1:=fun w => Sp.splitN_mk t 44 5 (by decide) (by decide) hm w
 have hr:=lH (show HR w w.heap.size #[.string ⟨#[]⟩,.string ⟨#[]⟩,.string ⟨#[]⟩,.string ⟨#[]⟩] 58 (w.alloc (.cells #[.string ⟨#[]⟩,.string ⟨#[]⟩,.string ⟨#[]⟩,.string ⟨#[]⟩] 58)) from ⟨heap_alloc_new w _⟩)
 have HS:=lH ((Since.refl w).alloc (.cells #[.string ⟨#[]⟩,.string ⟨#[]⟩,.string ⟨#[]⟩,.string ⟨#[]⟩] 58))
 have hz:(w.alloc (.cells #[.string ⟨#[]⟩,.string ⟨#[]⟩,.string ⟨#[]⟩,.string ⟨#[]⟩] 58)).heap.size = w.heap.size + 1:=by simp
 have ha:Hid (HR w (w.heap.size + 1) (Lib.cellsOf [] 4) 96 ((w.alloc (.cells #[.string ⟨#[]⟩,.string ⟨#[]⟩,.string ⟨#[]⟩,.string ⟨#[]⟩] 58)).alloc (.cells #[.string ⟨#[]⟩,.string ⟨#[]⟩,.string ⟨#[]⟩,.string ⟨#[]⟩] 96))):=lH ⟨by rw [<- hz]; exact heap_alloc_new _ _⟩
 replace hr:=lH (hr_old hr.out (.cells #[.string ⟨#[]⟩,.string ⟨#[]⟩,.string ⟨#[]⟩,.string ⟨#[]⟩] 96))
 replace HS:=lH (HS.out.alloc (.cells #[.string ⟨#[]⟩,.string ⟨#[]⟩,.string ⟨#[]⟩,.string ⟨#[]⟩] 96))
 clear hn hm hz
 go_enter Tryz.func42,Tryz.ntmps42
 go_wp2_with fail
 refine (c1 _).mono ?_
 rintro _ w1 ⟨q,L,rfl,hv,hL,hzz,h1⟩
 have hl4:L.length = 4:=by
   rw [<- List.length_map (f:=fun x:ByteArray => x.data.toList),hL]
   exact HN.out
 obtain ⟨a,b,c,d,rfl⟩:=four hl4
 obtain ⟨g,hg⟩:∃ g,g = w.heap.size + 1 + 1:=⟨_,rfl⟩
 have hg2:((w.alloc (.cells #[.string ⟨#[]⟩,.string ⟨#[]⟩,.string ⟨#[]⟩,.string ⟨#[]⟩] 58)).alloc (.cells #[.string ⟨#[]⟩,.string ⟨#[]⟩,.string ⟨#[]⟩,.string ⟨#[]⟩] 96)).heap.size = g:=by rw [hg]; simp
 rw [hg2] at hv ⊢
 have HL:=lH (show Sp.splN 44 5 t.data.toList = [a.data.toList,b.data.toList,c.data.toList,d.data.toList] from hL.symm)
 have HZ:=lH (fun x hx => unhex_m x (Nat.le_trans (hzz x hx) (by have:=HM.out; omega)))
 have HG:=lH hg
 replace hr:=lH (hr.out.step h1)
 replace ha:=lH (ha.out.step h1)
 replace HS:=lH (HS.out.step h1)
 have HC:Hid (∀ (j:Nat) x,[a,b,c,d][j]? = some x -> w1.cell? ⟨g,0 + j,none⟩ = some (.string x)):=lH fun j x hx => by
   obtain ⟨bb,oo,cc,h2,-,-,-,h3⟩:=SlR.form hv (by show 0 < 4; omega)
   obtain ⟨e1,-,-⟩:=Value.slice.inj h2
   cases e1
   exact h3 j _ (by rw [List.getElem?_map,hx]; rfl)
 clear hv hL h1 hl4 hzz hg hg2
 go_wp2_with fail
 go_loopw [18] (fun i wr => ∃ (k:Nat) (us:List ByteArray),k <= 4 /\ i = .int .i64 (k:Int) /\ Hid (us.length = k) /\ Hid (us.map some = ([a,b,c,d].take k).map fun x => unH x.data.toList) /\ Hid (HR w (w.heap.size + 1) (Lib.cellsOf us 4) 96 wr) /\ Hid (HR w w.heap.size #[.string ⟨#[]⟩,.string ⟨#[]⟩,.string ⟨#[]⟩,.string ⟨#[]⟩] 58 wr) /\ Hid (Since w wr) /\ Hid (g < wr.heap.size) /\ Hid (∀ (j:Nat) x,[a,b,c,d][j]? = some x -> wr.cell? ⟨g,0 + j,none⟩ = some (.string x))) (fun i _ => 4 - (intOf i).toNat)
 case atStart => exact ⟨0,[],Nat.zero_le _,rfl,lH rfl,lH rfl,ha,hr,HS,lH (lt_cell (HC.out 0 a rfl)),HC⟩
 case round =>
   clear ha hr HS HC
   obtain ⟨k,us,hk,rfl,HU,HD,ha,hr,HS,HLT,HC⟩:=hrel
   by_cases hlt:k < 4
   · obtain ⟨x,hx⟩:∃ x,[a,b,c,d][k]? = some x:=⟨_,List.getElem?_eq_getElem hlt⟩
     have m0:=HC.out k x hx
     rw [Nat.zero_add] at m0
     have hmem:=List.mem_of_getElem? hx
     have HTS:=lH (Att.take_snoc [a,b,c,d] k x hx)
     obtain ⟨X,B,c2,u2⟩:=HZ.out x hmem
     have i1:(0:Int) <= (k:Int):=by omega
     have i2:(k:Int) < 4:=by omega
     cases B with
     | false =>
       have HB:Hid (hdR t.data.toList = (noH,false)):=lH (hdR_bad _ _ _ _ _ x.data.toList HL.out (by
         exact (List.mem_map.2 ⟨x,hmem,rfl⟩:x.data.toList ∈ [a,b,c,d].map fun z:ByteArray => z.data.toList)) u2)
       clear hx hmem u2
       go_wp2_with fail
       refine c2.calls0 ?_
       intro w2 h2
       replace hr:=lH (hr.out.step h2)
       replace HS:=lH (HS.out.step h2)
       clear h2 m0 ha HC HLT
       go_wp2_with (refine RwL.at_store (ty:=58) rfl ?_; refine wpList_store_row rfl 58 _ _ rfl w.heap.size #[.string ⟨#[]⟩,.string ⟨#[]⟩,.string ⟨#[]⟩,.string ⟨#[]⟩] (by rfl) (by rfl) _ _ hr.out.row (h4_info _ _ _ _) rfl (h4_one _ _ _ _) ?_)
       rw [HB.out]
       exact bodyPost_ret (v:=.tuple #[hdv noH,.bool false]) (results_cell_tmp2 Tryz.results42 _ _ _ _ _ _ _ _ rfl rfl (setRow_heap _ _ _ _ _ _ hr.out.row) Tryz.underlying58 rfl (h4_info _ _ _ _)) rfl ⟨rfl,below_setRow HS.out (Nat.le_refl _) _⟩
     | true =>
       have HD2:Hid ((us ++ [X]).map some = ([a,b,c,d].take (k + 1)).map fun x => unH x.data.toList):=lH (by
         rw [HTS.out,List.map_append,List.map_append,HD.out,List.map_cons,List.map_cons,u2]; rfl)
       have HU2:Hid ((us ++ [X]).length = k + 1):=lH (by rw [List.length_append,HU.out]; rfl)
       clear hx hmem u2
       go_wp2_with fail
       refine c2.calls0 ?_
       intro w2 h2
       replace hr:=lH (hr.out.step h2)
       replace ha:=lH (ha.out.step h2)
       replace HS:=lH (HS.out.step h2)
       replace HC:Hid (∀ (j:Nat) x,[a,b,c,d][j]? = some x -> w2.cell? ⟨g,0 + j,none⟩ = some (.string x)):=lH fun j x hx => (Below.cell h2 (p:=⟨g,0 + j,none⟩) HLT.out).trans (HC.out j x hx)
       replace HLT:Hid (g < w2.heap.size):=lH (Nat.lt_of_lt_of_le HLT.out (Below.size h2))
       clear h2 m0
       have hnext:(Lib.cellsOf us 4)[k]? = some (.string ByteArray.empty):=by rw [<- HU.out]; exact Lib.cellsOf_next (by rw [HU.out]; exact hlt)
       have k0:w2.cell? ⟨w.heap.size + 1,k,none⟩ = some (.string ByteArray.empty):=hr_cell ha.out k _ hnext
       have f0:=hr_free ha.out k
       have hne:w.heap.size ≠ w.heap.size + 1:=by omega
       have hne2:g ≠ w.heap.size + 1:=by rw [HG.out]; omega
       have ha2:Hid (HR w (w.heap.size + 1) (Lib.cellsOf (us ++ [X]) 4) 96 (w2.setCell ⟨w.heap.size + 1,k,none⟩ (.string X))):=lH (by
         have h9:=hr_set ha.out k (.string X)
         rw [<- HU.out] at h9 ⊢
         rw [Lib.cellsOf_set (by rw [HU.out]; exact hlt)] at h9
         exact h9)
       have hr2:=lH (hr_low hr.out ha.out hne k (.string X))
       have HS2:=lH (since_cell HS.out (show w.heap.size <= w.heap.size + 1 by omega) k (.string X))
       have HC2:Hid (∀ (j:Nat) x,[a,b,c,d][j]? = some x -> (w2.setCell ⟨w.heap.size + 1,k,none⟩ (.string X)).cell? ⟨g,0 + j,none⟩ = some (.string x)):=lH fun j x hx => by
         rw [Go.setCell_eq_setRow w2 (w.heap.size + 1) k _ _ _ (.string X) ha.out.row]
         exact (cell_setRow hne2).trans (HC.out j x hx)
       have HLT2:Hid (g < (w2.setCell ⟨w.heap.size + 1,k,none⟩ (.string X)).heap.size):=lH (lt_cell (HC2.out 0 a rfl))
       clear ha hr HS HC HLT hne hne2 hnext
       go_wp2_with fail
       generalize w2.setCell ⟨w.heap.size + 1,k,none⟩ (.string X) = w3 at ha2 hr2 HS2 HC2 HLT2 ⊢
       clear k0 f0
       go_roundw
       case rel => exact ⟨k + 1,us ++ [X],by omega,by go_num,HU2,HD2,ha2,hr2,HS2,HLT2,HC2⟩
       case measure => (simp [intOf] <;> omega)
   · obtain rfl:k = 4:=by omega
     obtain ⟨u,m,v,e,rfl⟩:=four HU.out
     have HB:Hid (hdR t.data.toList = ((u,m,v,e),true)):=lH (by
       have h9:=HD.out
       have h8:[some u,some m,some v,some e] = [unH a.data.toList,unH b.data.toList,unH c.data.toList,unH d.data.toList]:=h9
       simp only [List.cons.injEq,and_true] at h8
       obtain ⟨p0,p1,p2,p3⟩:=h8
       unfold hdR
       rw [hdR_4 _ _ _ _ _ HL.out,<- p0,<- p1,<- p2,<- p3])
     have q0:wr.cell? ⟨w.heap.size + 1,0,none⟩ = some (.string u):=hr_cell ha.out 0 _ rfl
     have q1:wr.cell? ⟨w.heap.size + 1,1,none⟩ = some (.string m):=hr_cell ha.out 1 _ rfl
     have q2:wr.cell? ⟨w.heap.size + 1,2,none⟩ = some (.string v):=hr_cell ha.out 2 _ rfl
     have q3:wr.cell? ⟨w.heap.size + 1,3,none⟩ = some (.string e):=hr_cell ha.out 3 _ rfl
     clear ha HC HLT
     go_wp2_with (refine RwL.at_store (ty:=58) rfl ?_; refine wpList_store_row rfl 58 _ _ rfl w.heap.size #[.string u,.string m,.string v,.string e] (by rfl) (by rfl) _ _ hr.out.row (h4_info _ _ _ _) rfl (h4_one _ _ _ _) ?_)
     rw [HB.out]
     exact bodyPost_ret (v:=.tuple #[hdv (u,m,v,e),.bool true]) (results_cell_tmp2 Tryz.results42 _ _ _ _ _ _ _ _ rfl rfl (setRow_heap _ _ _ _ _ _ hr.out.row) Tryz.underlying58 rfl (h4_info _ _ _ _)) rfl ⟨rfl,below_setRow HS.out (Nat.le_refl _) _⟩
theorem head_mk (t:ByteArray) (hm:t.size <= 1000000):Mak 42 #[.string t] (.tuple #[hdv (hdR t.data.toList).1,.bool (hdR t.data.toList).2]):=by
 by_cases h:(Sp.splN 44 5 t.data.toList).length = 4
 · exact fun w => head_4 t hm h w
 · have e:hdR t.data.toList = (noH,false):=by
     unfold hdR headP
     split
     · rename_i h9
       split at h9
       · rename_i h8
         rw [h8] at h
         exact absurd rfl h
       · cases h9
     · rfl
   rw [e]
   exact fun w => head_few t hm h w
end Rcd
namespace Rcd
open Att Kind Rec Atf Rw Flt Tlv
theorem namedF_at (w:List UInt8):∀ (L:List Kind.Row) (i:Int) (k:Nat) (r:Kind.Row),(∀ (j:Nat) q,j < k -> L[j]? = some q -> q.1 ≠ w) -> L[k]? = some r -> r.1 = w -> namedF L i w = i + k:=by
 intro L
 induction L with
 | nil => intro i k r _ h; cases h
 | cons q L ih =>
   intro i k r h1 h2 h3
   rw [namedF]
   cases k with
   | zero =>
     cases h2
     rw [if_pos h3]; simp
   | succ k =>
     rw [if_neg (h1 0 q (by omega) rfl),ih (i + 1) k r (fun j y hj hy => h1 (j + 1) y (by omega) hy) h2 h3]
     omega
theorem namedF_no (w:List UInt8):∀ (L:List Kind.Row) (i:Int),(∀ (j:Nat) q,L[j]? = some q -> q.1 ≠ w) -> namedF L i w = 0:=by
 intro L
 induction L with
 | nil => intro i _; rfl
 | cons q L ih =>
   intro i h
   rw [namedF,if_neg (h 0 q rfl),ih (i + 1) (fun j y hy => h (j + 1) y hy)]
theorem row_len:Kind.rows.length = 11:=by decide +kernel
theorem row_get (k:Nat) (h:k < 11):Kind.rows[k]? = some (rowOf ((k:Int) + 1)):=by
 obtain ⟨r,hr⟩:∃ r,Kind.rows[k]? = some r:=⟨_,List.getElem?_eq_getElem (by rw [row_len]; exact h)⟩
 rw [hr]
 unfold rowOf
 rw [if_pos (by omega),show ((k:Int) + 1 - 1).toNat = k by omega,hr]
 rfl
theorem empty_list:(⟨#[]⟩:ByteArray).toList = []:=by decide +kernel
set_option maxHeartbeats 4000000 in
theorem named_k (s:ByteArray):KMk Kind.Tabs 40 #[.string s] (.int .i64 (namedV s.data.toList)):=by
 intro w hT
 have HT:=lH hT
 have HS:=lH (Since.refl w)
 clear hT
 go_enter Tryz.func40,Tryz.ntmps40
 go_wp2_with fail
 go_loopw [3] (fun i wr => ∃ k:Nat,k <= 11 /\ i = .int .i64 ((k:Int) + 1) /\ Hid (∀ (j:Nat) q,j < k -> Kind.rows[j]? = some q -> q.1 ≠ s.data.toList) /\ Hid (Kind.Tabs wr) /\ Hid (Since w wr)) (fun i _ => 12 - (intOf i).toNat)
 case atStart => exact ⟨0,by omega,rfl,lH (fun j q hj => absurd hj (Nat.not_lt_zero _)),HT,HS⟩
 case round =>
   clear HT HS
   obtain ⟨k,hk,rfl,HA,HT,HS⟩:=hrel
   by_cases hlt:k < 11
   · obtain ⟨X,hX⟩:∃ X,X = bs (rowOf ((k:Int) + 1)).1:=⟨_,rfl⟩
     have c1:=name_k ((k:Int) + 1) X hX
     have hx0:(X.toList == []) = false:=by
       have h9:=str_ne_f (p:=X) (q:=⟨#[]⟩) (fun h => (name_free_all k hlt).2 (by
         have h8:=congrArg (fun z:ByteArray => z.data.toList) h
         rw [hX] at h8
         exact h8))
       rw [empty_list] at h9
       exact h9
     have hx1:X.toList.isEmpty = false:=by
       cases hl:X.toList with
       | nil => rw [hl] at hx0; cases hx0
       | cons y l => rfl
     have HXX:=lH hX
     clear hX
     go_wp2_with fail
     refine c1.calls0 HT.out ?_
     intro w1 h1
     replace HT:=lH (Kp.keep HT.out h1)
     replace HS:=lH (HS.out.step h1)
     clear h1
     go_wp2_with fail
     refine c1.calls0 HT.out ?_
     intro w2 h1
     replace HT:=lH (Kp.keep HT.out h1)
     replace HS:=lH (HS.out.step h1)
     clear h1 c1
     by_cases hq:X = s
     · have t1:(X.toList == s.toList) = true:=by rw [hq]; exact beq_self_eq_true _
       have HR:Hid (namedV s.data.toList = (k:Int) + 1):=lH (by
         have h9:=namedF_at s.data.toList Kind.rows 1 k _ HA.out (row_get k hlt) (by rw [<- hq,HXX.out]; rfl)
         unfold namedV
         rw [h9]
         omega)
       clear hx0 hx1 hq HA
       go_wp2_with fail
       go_ret
       rw [HR.out]
       exact ⟨rfl,HS.out⟩
     · have t1:(X.toList == s.toList) = false:=str_ne_f hq
       have HA2:Hid (∀ (j:Nat) q,j < k + 1 -> Kind.rows[j]? = some q -> q.1 ≠ s.data.toList):=lH fun j q hj hjq => by
         by_cases h9:j < k
         · exact HA.out j q h9 hjq
         · obtain rfl:j = k:=by omega
           rw [row_get j hlt] at hjq
           cases hjq
           intro h8
           exact hq (by rw [HXX.out,h8]; exact ba_ext rfl)
       clear hx0 hx1 hq HA
       go_wp2_with fail
       go_roundw
       case rel => exact ⟨k + 1,by omega,by go_num,HA2,HT,HS⟩
       case measure => (simp [intOf] <;> omega)
   · obtain rfl:k = 11:=by omega
     have c1:=name_k (((11:Nat):Int) + 1) ⟨#[]⟩ (by decide +kernel)
     have HR:Hid (namedV s.data.toList = 0):=lH (namedF_no _ _ _ fun j q hq => HA.out j q (by
       have:=(List.getElem?_eq_some_iff.1 hq).1
       rw [row_len] at this
       exact this) hq)
     go_wp2_with fail
     refine c1.calls0 HT.out ?_
     intro w1 h1
     replace HS:=lH (HS.out.step h1)
     clear h1 HT
     go_wp2_with fail
     go_ret
     rw [HR.out]
     exact ⟨rfl,HS.out⟩
end Rcd
end Go.Proofs.YtcdjfmlanicjlaaGreatDoor
