import Derived.Test.YtpanhhjkecebkaaGreatAp44
import Derived.Test.YtpanhhjkecebkaaGreatAp46
import Derived.Test.YtpanhhjkecebkaaGreatAp45
set_option maxRecDepth 100000
namespace Go.Proofs.YtpanhhjkecebkaaGreat
open Go.RowKit Go.Sort
namespace Atf
open Att Rw Atm Tlv Setof
def cfA (x y:A2):Int:=if x.1 < y.1 then -1 else if y.1 < x.1 then 1 else 0
theorem cfA_lt (x y:A2):ltOf cfA x y = decide (x.1 < y.1):=by
 unfold ltOf cfA
 by_cases h1:x.1 < y.1
 · simp [h1]
 · by_cases h2:y.1 < x.1 <;> simp [h1,h2]
theorem cfA_swo:SWO (ltOf cfA) where
 irrefl x:=by rw [cfA_lt]; simp
 trans x y z h1 h2:=by rw [cfA_lt] at *; simp at *; omega
 ntrans x y z h1 h2:=by rw [cfA_lt] at *; simp at *; omega
theorem nan_ret (x:Int):Ret 91 #[.int .i64 x] (.bool false):=by
 intro w
 have t1:(x != x) = false:=by simp
 go_enter Tryz.func91,Tryz.ntmps91
 go_wp2_with fail
 go_ret
 exact ⟨rfl,rfl⟩
theorem compare_ret (x y:Int):Ret 47 #[.int .i64 x,.int .i64 y] (.int .i64 (if x < y then -1 else if y < x then 1 else 0)):=by
 have c1:=nan_ret x
 have c2:=nan_ret y
 have key:∀ (r:Int),(x < y /\ r = -1) ∨ (¬ x < y /\ y < x /\ r = 1) ∨ (¬ x < y /\ ¬ y < x /\ r = 0) -> Ret 47 #[.int .i64 x,.int .i64 y] (.int .i64 r):=by
   intro r hr w
   rcases hr with ⟨h1,rfl⟩ | ⟨h1,h2,rfl⟩ | ⟨h1,h2,rfl⟩
   · have t1:decide (x < y) = true:=decide_eq_true h1
     clear h1
     go_enter Tryz.func47,Tryz.ntmps47
     go_wp2_with fail
     refine c1.calls ?_
     go_wp2_with fail
     refine c2.calls ?_
     go_wp2_with fail
     go_ret
     exact ⟨rfl,rfl⟩
   · have t1:decide (x < y) = false:=decide_eq_false h1
     have t2:decide (y < x) = true:=decide_eq_true h2
     clear h1 h2
     go_enter Tryz.func47,Tryz.ntmps47
     go_wp2_with fail
     refine c1.calls ?_
     go_wp2_with fail
     refine c2.calls ?_
     go_wp2_with fail
     go_ret
     exact ⟨rfl,rfl⟩
   · have t1:decide (x < y) = false:=decide_eq_false h1
     have t2:decide (y < x) = false:=decide_eq_false h2
     clear h1 h2
     go_enter Tryz.func47,Tryz.ntmps47
     go_wp2_with fail
     refine c1.calls ?_
     go_wp2_with fail
     refine c2.calls ?_
     go_wp2_with fail
     go_ret
     exact ⟨rfl,rfl⟩
 apply key
 by_cases h1:x < y
 · exact Or.inl ⟨h1,if_pos h1⟩
 · by_cases h2:y < x
   · exact Or.inr (Or.inl ⟨h1,h2,by rw [if_neg h1,if_pos h2]⟩)
   · exact Or.inr (Or.inr ⟨h1,h2,by rw [if_neg h1,if_neg h2]⟩)
theorem clo (x y:A2) (W:World):Calls Tryz.prog 46 #[.agg #[.int .i64 x.1,.string x.2],.agg #[.int .i64 y.1,.string y.2]] W fun e w' => e = .returned (.int .i64 (cfA x y)) /\ ∃ q os',w' = grow (W.drewN q) os':=by
 obtain ⟨x1,x2⟩:=x
 obtain ⟨y1,y2⟩:=y
 have c1:=compare_ret x1 y1
 unfold cfA
 dsimp only
 generalize (if x1 < y1 then (-1:Int) else if y1 < x1 then 1 else 0) = r at c1 ⊢
 have m0:(W.alloc (.cells #[.int .i64 x1,.string x2] 35)).cell? ⟨W.heap.size,0,none⟩ = some (.int .i64 x1):=(World.cell?_alloc_new _ _ _ _).trans rfl
 go_enter Tryz.func46,Tryz.ntmps46
 go_wp2_with fail
 refine c1.calls ?_
 go_wp2_with fail
 go_ret
 exact ⟨rfl,0,_,by rw [alloc_eq_grow,alloc_eq_grow,grow_grow]; rfl⟩
theorem flat_at (d:Array A2) (j:Nat) (u:Value) (hu:(d.toList.flatMap ac)[j]? = some u):j < d.size * 2 /\ (flatK ac 2 d)[j]! = u:=by
 have hj:=(List.getElem?_eq_some_iff.1 hu).1
 rw [fl_len] at hj
 have hj2:j < d.size * 2:=by simpa using hj
 refine ⟨hj2, ?_⟩
 rw [get_flatK ac 2 d j hj2]
 have hi:j / 2 < d.size:=by omega
 have ha:d.toList[j / 2]? = some d[j / 2]! := by
   rw [Array.getElem?_toList,getElem!_pos d (j / 2) hi,Array.getElem?_eq_getElem hi]
 have h9:=flatMap_get ac 2 ac_len d.toList (j / 2) _ ha (j % 2) (by omega)
 rw [show j / 2 * 2 + j % 2 = j by omega,hu] at h9
 rw [List.getElem!_eq_getElem?_getD,<- h9]
 rfl
theorem kept_id (W:World) (g n:Nat) (F:Array Value) (os:Array Obj):Kept W (grow (putRow id (Sort.ahead W n) g 0 F) os) g:=by
 refine ⟨rfl,rfl,rfl, ?_,fun b hb hne => ?_⟩
 · show W.heap.size <= ((W.heap.modify g _) ++ os).size
   rw [Array.size_append,Array.size_modify]; omega
 · show ((W.heap.modify g _) ++ os)[b]? = _
   rw [Array.getElem?_append_left (by rw [Array.size_modify]; exact hb),Array.getElem?_modify,if_neg (fun e => hne e.symm)]
theorem sort_at (w0 W:World) (V:Value) (O:List A2) (h:ARow w0 W V O) (hs:Since w0 W) (hl:O.length <= 100000):Calls Tryz.prog 45 #[V,.func (.func 46) #[] #[]] W fun e w' => e = .returned (.tuple #[]) /\ ∃ M,M.Perm O /\ Le M /\ AttsS w' V M /\ Since w0 w':=by
 by_cases h0:O.length = 0
 · obtain rfl:=List.length_eq_zero_iff.1 h0
   obtain ⟨A,c,rfl,-⟩:=h.val
   refine (AnyF.slices_SortFunc_none Tryz.laysSA A c (.func (.func 46) #[] #[]) W).mono ?_
   rintro _ _ ⟨rfl,rfl⟩
   exact ⟨rfl,[],List.Perm.refl _,List.Pairwise.nil,h.atts,hs⟩
 · obtain ⟨g,cc,hV,hc1,hc2⟩:=own_form h.get (by show 0 < O.length; omega)
   dsimp only at hV hc1
   subst hV
   have hcl:=own_cells h.get
   obtain ⟨hgb,hgl⟩:=World.ownsRow.lt h.get g rfl
   have hH:HoldsK ac 2 W g 0 O.toArray:=by
     intro j hj
     rw [size_flatK] at hj
     have hj2:j < (O.flatMap ac).length:=by rw [fl_len]; simpa using hj
     have hu:(O.flatMap ac)[j]? = some ((O.flatMap ac)[j]):=List.getElem?_eq_getElem hj2
     obtain ⟨-,e⟩:=flat_at O.toArray j _ hu
     rw [Nat.zero_add,e]
     exact hcl.2.2 j _ hu
   have hsz:O.toArray.size = O.length:=by simp
   have hc:=AnyQ.slices_SortFunc Tryz.laysSA 2 Tryz.isAgg35 Tryz.sizeOf35 ac ac_len (fun x v hv => ac_one x v (by unfold ac at hv; simpa using hv)) cfA cfA_swo 46 #[] g 0 cc O.toArray W (fun _ _ => by kernel_rfl) (fun _ _ _ _ x y => clo x y _) hH hgl (by rw [hsz]; omega)
   rw [hsz] at hc
   refine hc.mono fun e w' ⟨he,d',m,os,hp,hso,hw⟩ => ?_
   have hd:d'.size = O.length:=by rw [hp.1]; exact hsz
   have hperm:d'.toList.Perm O:=by
     have h9:=hp.2.2
     have e1:d'.extract 0 O.length = d':=by rw [<- hd]; simp
     have e2:O.toArray.extract 0 O.length = O.toArray:=by simp
     rw [e1,e2] at h9
     simpa using h9
   have hw2:w' = grow (putRow id (Sort.ahead W m) g 0 (flatK ac 2 d')) os:=hw
   subst hw2
   have hgs:g < (putRow id (Sort.ahead W m) g 0 (flatK ac 2 d')).heap.size:=by
     show g < (W.heap.modify g _).size
     rw [Array.size_modify]; exact hgl
   refine ⟨he,d'.toList,hperm, ?_, ?_,(kept_id W g m (flatK ac 2 d') os).since hs hgb⟩
   · unfold Le
     rw [List.pairwise_iff_getElem]
     intro i j hi hj hij
     have hi2:i < d'.size:=by simpa using hi
     have hj2:j < d'.size:=by simpa using hj
     have h9:=hso i j (Nat.zero_le _) hij (by omega)
     rw [cfA_lt,getElem!_pos d' j hj2,getElem!_pos d' i hi2] at h9
     have h8:=of_decide_eq_false h9
     rw [Array.getElem_toList,Array.getElem_toList]
     omega
   · unfold AttsS
     have hln:d'.toList.length = O.length:=by simpa using hd
     rw [hln]
     refine ⟨by rw [fl_len,hln],_,_,rfl,hc1,hc2,Or.inr ⟨g,0,rfl, ?_,fun i u hu => ?_⟩⟩
     · show g < ((W.heap.modify g _) ++ os).size
       rw [Array.size_append,Array.size_modify]; omega
     · obtain ⟨h8,h9⟩:=flat_at d' i u hu
       have hH2:Holds id (Sort.ahead W m) g 0 (flatK ac 2 O.toArray):=hH
       rw [cell?_grow _ _ _ hgs,cell?_putRow id (Sort.ahead W m) g 0 (flatK ac 2 O.toArray) (flatK ac 2 d') hH2 (by simp [hd]) i (by simp; omega),h9]
       rfl
end Atf
end Go.Proofs.YtpanhhjkecebkaaGreat
namespace Go.Proofs.YtpanhhjkecebkaaGreat
open Go.RowKit
namespace Atf
open Att Rw Atm Tlv Setof
def UnR (f:Nat) (s:ByteArray) (r:List A2 × Int):Prop:=∀ w,Calls Tryz.prog f #[.string s] w fun e w' => ∃ y,e = .returned (.tuple #[y,.int .i64 r.2]) /\ AttsS w' y r.1 /\ Since w w'
set_option maxHeartbeats 4000000 in
theorem unp_1 (s:ByteArray) (C P:Int) (hC:(C != 0) = true) (L:List ByteArray) (d1:PcR 43 s C P L):UnR 20 s ([],5):=by
 intro w
 have HS:=lH (Since.refl w)
 go_enter Tryz.func20,Tryz.ntmps20
 go_wp2_with fail
 refine (d1 _).mono ?_
 rintro _ w1 ⟨u1,rfl,hU,h1⟩
 obtain ⟨A1,q1,e1,-,-⟩:=SlR.slice hU
 subst e1
 unfold F2
 replace HS:=lH (HS.out.step h1)
 have r1:(w1.alloc (.cells #[.int .i64 0,.int .i64 0] 65)).heap[w1.heap.size]? = some (.cells #[.int .i64 0,.int .i64 0] 65 (0,0)):=heap_alloc_new w1 _
 have hb:=lH (Tree.hb_row (K:=KT) (C':=#[.int .i64 C,.int .i64 P]) ((Since.refl w1).alloc _) (Nat.le_refl _) trivial r1)
 have y0:=hb.out.cell 0 _ rfl
 replace HS:=lH (HS.out.step hb.out.since)
 have HU:=lH (SlR.since hU hb.out.since)
 clear hU h1
 go_wp2_with (refine RwL.at_store (ty:=65) rfl ?_; refine wpList_store_row rfl 65 _ _ rfl w1.heap.size #[.int .i64 C,.int .i64 P] (by rfl) (by rfl) _ _ r1 (f2_info C P) rfl (f2_one C P) ?_; generalize hw2:(w1.alloc (.cells #[.int .i64 0,.int .i64 0] 65)).setRow w1.heap.size #[.int .i64 C,.int .i64 P] = w2 at HS HU y0 ⊢; clear hw2 r1 hb)
 go_ret2
 exact ⟨_,rfl,AttsS.nil _,HS.out⟩
set_option maxHeartbeats 4000000 in
theorem unp_2 (s:ByteArray) (C P:Int) (hC:(C != 0) = false) (L:List ByteArray) (d1:PcR 43 s C P L) (c1:RdS 44 L (fun x => #[x]) (.bool false)):UnR 20 s ([],5):=by
 obtain ⟨l0,hl0⟩:∃ n,n = L.length:=⟨_,rfl⟩
 intro w
 have HS:=lH (Since.refl w)
 go_enter Tryz.func20,Tryz.ntmps20
 go_wp2_with fail
 refine (d1 _).mono ?_
 rintro _ w1 ⟨u1,rfl,hU,h1⟩
 obtain ⟨A1,q1,e1,-,-⟩:=SlR.slice hU
 subst e1
 unfold F2
 replace HS:=lH (HS.out.step h1)
 have r1:(w1.alloc (.cells #[.int .i64 0,.int .i64 0] 65)).heap[w1.heap.size]? = some (.cells #[.int .i64 0,.int .i64 0] 65 (0,0)):=heap_alloc_new w1 _
 have hb:=lH (Tree.hb_row (K:=KT) (C':=#[.int .i64 C,.int .i64 P]) ((Since.refl w1).alloc _) (Nat.le_refl _) trivial r1)
 have y0:=hb.out.cell 0 _ rfl
 replace HS:=lH (HS.out.step hb.out.since)
 have HU:=lH (SlR.since hU hb.out.since)
 clear hU h1
 go_wp2_with (refine RwL.at_store (ty:=65) rfl ?_; refine wpList_store_row rfl 65 _ _ rfl w1.heap.size #[.int .i64 C,.int .i64 P] (by rfl) (by rfl) _ _ r1 (f2_info C P) rfl (f2_one C P) ?_; generalize hw2:(w1.alloc (.cells #[.int .i64 0,.int .i64 0] 65)).setRow w1.heap.size #[.int .i64 C,.int .i64 P] = w2 at HS HU y0 ⊢; clear hw2 r1 hb)
 refine c1.calls0 HU.out ?_
 intro w3 h3
 replace HS:=lH (HS.out.step h3)
 clear h3
 go_wp2_with fail
 go_ret2
 exact ⟨_,rfl,AttsS.nil _,HS.out⟩
def mapD (D:ByteArray -> A2 × Int) (l:List ByteArray):List A2:=l.map fun x => (D x).1
theorem mapD_snoc (D:ByteArray -> A2 × Int) (L:List ByteArray) (k:Nat) (x:ByteArray) (h:L[k]? = some x):mapD D (L.take (k + 1)) = mapD D (L.take k) ++ [(D x).1]:=by
 unfold mapD
 rw [Att.take_snoc L k x h,List.map_append]
 rfl
theorem mapD_len (D:ByteArray -> A2 × Int) (L:List ByteArray) (k:Nat) (h:k <= L.length):(mapD D (L.take k)).length = k:=by
 unfold mapD
 rw [List.length_map,List.length_take,Nat.min_eq_left h]
set_option maxHeartbeats 8000000 in
theorem unp_3 (s:ByteArray) (C P:Int) (hC:(C != 0) = false) (L:List ByteArray) (hm:L.length <= 70000) (d1:PcR 43 s C P L) (c1:RdS 44 L (fun x => #[x]) (.bool true)) (D:ByteArray -> A2 × Int) (cD:∀ x ∈ L,Mak 24 #[.string x] (decT (D x))) (r:List A2 × Int)
   (hbad:∀ x ∈ L,(D x).2 = 0 ∨ ((D x).2 = 5 /\ r = ([],5)))
   (hgood:(∀ x ∈ L,(D x).2 = 0) -> ∀ M,M.Perm (mapD D L) -> Le M -> (attE M = 0 /\ r = (M,0)) ∨ (attE M = 11 /\ r = ([],11))):UnR 20 s r:=by
 obtain ⟨l0,hl0⟩:∃ n,n = L.length:=⟨_,rfl⟩
 have HL0:=lH hl0
 have HCD:=lH cD
 have HBD:=lH hbad
 have HGD:=lH hgood
 rw [<- hl0] at hm
 clear cD hbad hgood
 intro w
 have HS:=lH (Since.refl w)
 go_enter Tryz.func20,Tryz.ntmps20
 go_wp2_with fail
 refine (d1 _).mono ?_
 rintro _ w1 ⟨u1,rfl,hU,h1⟩
 obtain ⟨A1,q1,e1,-,-⟩:=SlR.slice hU
 subst e1
 unfold F2
 replace HS:=lH (HS.out.step h1)
 have r1:(w1.alloc (.cells #[.int .i64 0,.int .i64 0] 65)).heap[w1.heap.size]? = some (.cells #[.int .i64 0,.int .i64 0] 65 (0,0)):=heap_alloc_new w1 _
 have hb:=lH (Tree.hb_row (K:=KT) (C':=#[.int .i64 C,.int .i64 P]) ((Since.refl w1).alloc _) (Nat.le_refl _) trivial r1)
 have y0:=hb.out.cell 0 _ rfl
 replace HS:=lH (HS.out.step hb.out.since)
 have HU:=lH (SlR.since hU hb.out.since)
 clear hU h1
 rw [<- hl0] at HU ⊢
 clear hl0
 go_wp2_with (refine RwL.at_store (ty:=65) rfl ?_; refine wpList_store_row rfl 65 _ _ rfl w1.heap.size #[.int .i64 C,.int .i64 P] (by rfl) (by rfl) _ _ r1 (f2_info C P) rfl (f2_one C P) ?_; generalize hw2:(w1.alloc (.cells #[.int .i64 0,.int .i64 0] 65)).setRow w1.heap.size #[.int .i64 C,.int .i64 P] = w2 at HS HU y0 ⊢; clear hw2 r1 hb)
 refine c1.calls0 (by show SlR w2 1 _ L.length _; rw [<- HL0.out]; exact HU.out) ?_
 intro w3 h3
 have HS0:=lH (HS.out.step h3)
 replace HU:=lH (SlR.since HU.out h3)
 clear h3 HS y0
 go_wp2_with fail
 go_loopw [6,27] (fun V i wr => ∃ k:Nat,k <= l0 /\ i = .int .i64 (k:Int) /\ Hid (∀ x ∈ L.take k,(D x).2 = 0) /\ Hid (ARow w3 wr V (mapD D (L.take k))) /\ Hid (Since w3 wr)) (fun _ i _ => l0 - (intOf i).toNat)
 case atStart => exact ⟨0,Nat.zero_le _,rfl,lH (by simp),lH (ARow.nil _ _),lH (Since.refl w3)⟩
 case round =>
   obtain ⟨k,hk,rfl,HA,HR,HS⟩:=hrel
   obtain ⟨VA,vc,rfl,-⟩:=HR.out.val
   have hkl:=mapD_len D L k (by rw [<- HL0.out]; exact hk)
   have HKL:=lH hkl
   rw [hkl]
   clear hkl
   by_cases hlt:k < l0
   · obtain ⟨x,hx⟩:∃ x,L[k]? = some x:=⟨_,List.getElem?_eq_getElem (by rw [<- HL0.out]; exact hlt)⟩
     obtain ⟨b,o,c9,hv,f1,f2,f3,f4⟩:=SlR.form HU.out (by omega)
     obtain ⟨rfl,-,rfl⟩:=Value.slice.inj hv
     have m0:=(Below.cell HS.out (p:=⟨b,o + k,none⟩) f3).trans (f4 k (.string x) (by rw [List.getElem?_map,hx]; rfl))
     have cd:=HCD.out x (List.mem_of_getElem? hx)
     have hbd:=HBD.out x (List.mem_of_getElem? hx)
     have hst:=mapD_snoc D L k x hx
     have hts:=Att.take_snoc L k x hx
     obtain ⟨⟨⟨t,v⟩,e⟩,hD⟩:∃ y,y = D x:=⟨_,rfl⟩
     rw [<- hD] at cd hbd hst
     unfold decT at cd
     dsimp only at cd hbd hst
     have i1:(0:Int) <= (k:Int):=by omega
     have i2:(k:Int) < (l0:Int):=by omega
     have HST:=lH hst
     have HTS:=lH (And.intro hts hD)
     clear hx hv f1 f2 f3 f4 hst hts hD
     rcases hbd with rfl | ⟨rfl,hr⟩
     · go_wp2_with fail
       refine cd.calls0 ?_
       intro w4 h4
       have HS4:=lH ((HS.out.step h4).alloc (.cells #[.int .i64 t,.string v] 35))
       have HR4:=lH ((HR.out.since h4).since ((Since.refl w4).alloc (.cells #[.int .i64 t,.string v] 35)))
       have HB1:=lH (show k + 1 <= maxLen by unfold maxLen; omega)
       have HB2:=lH (show (k + 1) * 24 <= 140737488355328 by omega)
       have HR9:=lH (show Rw.Rows (w4.alloc (.cells #[.int .i64 t,.string v] 35)) w3.heap.size (([]:List Row) ++ ⟨35,2,.slice VA k vc,k,(mapD D (L.take k)).flatMap ac⟩ :: []) by have h9:=HR4.out; unfold ARow at h9; rw [HKL.out] at h9; exact h9)
       have e8:(w4.alloc (.cells #[.int .i64 t,.string v] 35)).heap.size = w4.heap.size + 1:=by simp
       have HE8:=lH e8
       clear h4 HR HS m0 HR4 e8
       go_wp2_with (at_builtin; refine app_rows elemAt rfl _ _ (by rfl) w3 (w4.alloc (.cells #[.int .i64 t,.string v] 35)) _ HE8.out [] [] _ k _ (by rfl) HR9.out HS4.out #[.int .i64 t,.string v] 1 1 (by rfl) rfl (ac_one (t,v)) HB1.out HB2.out ?_; intro V2 w5 HQ2 HT2 HK2)
       have HF:Hid (ARow w3 w5 V2 (mapD D (L.take (k + 1)))):=lH (by
         rw [HST.out]
         exact ARow.app (t,v) (by rw [HKL.out]; exact HQ2))
       have HS5:=lH HT2
       have HA5:Hid (∀ x ∈ L.take (k + 1),(D x).2 = 0):=lH (fun z hz => by
         rw [HTS.out.1] at hz
         rcases List.mem_append.1 hz with hz | hz
         · exact HA.out z hz
         · rw [List.mem_singleton.1 hz,<- HTS.out.2])
       clear HQ2 HT2 HK2
       go_wp2_with fail
       go_roundw
       case rel => exact ⟨k + 1,by omega,by go_num,HA5,HF,HS5⟩
       case measure => (simp [intOf] <;> omega)
     · go_wp2_with fail
       refine cd.calls0 ?_
       intro w4 h4
       have HS4:=lH (HS0.out.step ((HS.out.step h4).alloc (.cells #[.int .i64 t,.string v] 35)))
       clear h4 HR HS m0
       go_wp2_with fail
       go_ret2
       subst hr
       exact ⟨_,rfl,AttsS.nil _,HS4.out⟩
   · obtain rfl:l0 = k:=by omega
     have ht:L.take l0 = L:=by rw [HL0.out,List.take_length]
     rw [ht] at HA HR HKL
     have HR9:Hid (ARow w3 wr (.slice VA l0 vc) (mapD D L)):=lH (by have h9:=HR.out; rw [HKL.out] at h9; exact h9)
     have cs:=sort_at w3 wr (.slice VA l0 vc) (mapD D L) HR9.out HS.out (by rw [HKL.out]; omega)
     clear HR ht
     go_wp2_with fail
     refine cs.mono ?_
     rintro _ w6 ⟨rfl,M,hp,hle,hM,h6⟩
     have hgd:=HGD.out HA.out M hp hle
     have HM:=lH hM
     have hS6:=lH (HS0.out.step h6)
     rcases hgd with ⟨hE,hr⟩ | ⟨hE,hr⟩
     · have ck:=check_rd M 0 hE.symm
       have HRR:=lH hr
       clear cs hp hle hM h6 hE hr
       go_wp2_with fail
       refine ck.calls0 HM.out ?_
       intro w7 h7
       have hS7:=lH (hS6.out.step h7)
       replace HM:=lH (HM.out.since h7)
       clear h7
       go_wp2_with fail
       go_ret2
       rw [HRR.out]
       exact ⟨_,rfl,HM.out,hS7.out⟩
     · have ck:=check_rd M 11 hE.symm
       have HRR:=lH hr
       clear cs hp hle hM h6 hE hr
       go_wp2_with fail
       refine ck.calls0 HM.out ?_
       intro w7 h7
       have hS7:=lH (hS6.out.step h7)
       clear h7
       go_wp2_with fail
       go_ret2
       rw [HRR.out]
       exact ⟨_,rfl,AttsS.nil _,hS7.out⟩
end Atf
namespace Atf
open Att Rw Atm Tlv Setof
def SRow (w wr:World) (V:Value) (l:List ByteArray):Prop:=Rw.Rows wr w.heap.size (([]:List Row) ++ ⟨9,1,V,l.length,l.map Value.string⟩ :: [])
theorem SRow.nil (w wr:World):SRow w wr (.slice none 0 0) []:=⟨fun r hr => by rw [List.mem_singleton.1 hr]; exact World.ownsRow_nil _ _ _ _,by simp⟩
theorem SRow.since {w wr wy:World} {V:Value} {l:List ByteArray} (h:SRow w wr V l) (hs:Since wr wy):SRow w wy V l:=Rw.Rows.since h hs
theorem SRow.val {w wr:World} {V:Value} {l:List ByteArray} (h:SRow w wr V l):∃ A c,V = .slice A l.length c /\ l.length <= c:=own_slice h.get
theorem SRow.strs {w wr:World} {V:Value} {l:List ByteArray} (h:SRow w wr V l):StrsS wr V l:=SlR.own h.get
theorem SRow.app {w wr:World} {V:Value} {l:List ByteArray} (s:ByteArray) (h:Rw.Rows wr w.heap.size (([]:List Row) ++ ⟨9,1,V,l.length + 1,l.map Value.string ++ (#[.string s]:Array Value).toList⟩ :: [])):SRow w wr V (l ++ [s]):=by
 unfold SRow
 rw [List.length_append,List.map_append]
 exact h
theorem s_one (s:ByteArray):∀ u ∈ (#[.string s]:Array Value).toList,u.oneCell' = true:=by
 intro u hu
 simp only [List.mem_cons,List.not_mem_nil,or_false] at hu
 subst hu
 rfl
theorem inter_nil (l:List (List UInt8)):([]:List UInt8).intercalate l = l.flatten:=by
 induction l with
 | nil => rfl
 | cons a r ih =>
   cases r with
   | nil => simp [List.intercalate]
   | cons b r =>
     have e:([]:List UInt8).intercalate (a :: b :: r) = a ++ ([] ++ ([]:List UInt8).intercalate (b :: r)):=by simp [List.intercalate]
     rw [e,ih,List.flatten_cons]
     rfl
theorem join_rd (l:List ByteArray) (hl:(catB l).size <= 140737488355328) (hn:l.length <= 140737488355328) (w:World) (x:Value) (hx:StrsS w x l):Calls Tryz.prog 40 #[x,.string ⟨#[]⟩] w fun e w' => e = .returned (.string (catB l)) /\ Since w w':=by
 by_cases h0:l.length = 0
 · obtain rfl:=List.length_eq_zero_iff.1 h0
   obtain ⟨A,c,rfl,-⟩:=SlR.empty hx rfl
   refine (Tryz.strings_Join_none A c ⟨#[]⟩ w).mono ?_
   rintro _ _ ⟨rfl,rfl⟩
   exact ⟨rfl,Since.refl _⟩
 · obtain ⟨b,o,c,rfl,h1,h2,h3,h4⟩:=strs_cells hx (by omega)
   have e:Lib.join (l.map (·.data.toList)) (⟨#[]⟩:ByteArray).data.toList = (l.map dl).flatten:=inter_nil _
   have h:=Tryz.strings_Join b o c l ⟨#[]⟩ w (fun j y hy => h4 j y hy) h3 hn h1 (by rw [e]; unfold catB at hl; rw [size_bs] at hl; exact hl)
   rw [e] at h
   exact h
set_option maxHeartbeats 4000000 in
theorem pack_1 (L:List A2) (E:Int) (hE:(E != 0) = true) (c1:RdA 15 L (fun x => #[x]) (.int .i64 E)):RdA 18 L (fun x => #[x]) (.tuple #[.string ⟨#[]⟩,.int .i64 E]):=by
 intro w x hx
 obtain ⟨A,c,rfl,-,-⟩:=hx.slice
 have HX:=lH hx
 have HS:=lH (Since.refl w)
 clear hx
 go_enter Tryz.func18,Tryz.ntmps18
 go_wp2_with fail
 refine c1.calls0 HX.out ?_
 intro w1 h1
 replace HS:=lH (HS.out.step h1)
 clear h1
 go_wp2_with fail
 go_ret2
 exact ⟨rfl,HS.out⟩
set_option maxHeartbeats 8000000 in
theorem pack_2 (L:List A2) (hm:L.length <= 1000) (E:A2 -> ByteArray) (c1:RdA 15 L (fun x => #[x]) (.int .i64 0)) (c2:∀ p ∈ L,Mak 22 #[.agg #[.int .i64 p.1,.string p.2]] (.tuple #[.string (E p),.int .i64 0])) (S:List ByteArray) (J:ByteArray) (c3:MkSS 41 (L.map E) S) (c4:∀ w x,StrsS w x S -> Calls Tryz.prog 40 #[x,.string ⟨#[]⟩] w fun e w' => e = .returned (.string J) /\ Since w w'):RdA 18 L (fun x => #[x]) (.tuple #[.string J,.int .i64 0]):=by
 intro w x hx
 obtain ⟨A,c,rfl,-,-⟩:=hx.slice
 obtain ⟨n,hn⟩:∃ n,n = L.length:=⟨_,rfl⟩
 have HX:=lH hx
 have HN:=lH hn
 have HC2:=lH c2
 rw [<- hn] at hm ⊢
 have HS:=lH (Since.refl w)
 clear hx hn c2
 go_enter Tryz.func18,Tryz.ntmps18
 go_wp2_with fail
 refine c1.calls0 (by rw [HN.out]; exact HX.out) ?_
 intro w1 h1
 have HS0:=lH (HS.out.step h1)
 clear h1 HS
 go_wp2_with fail
 go_loopw [5,17] (fun V i wr => ∃ k:Nat,k <= n /\ i = .int .i64 (k:Int) /\ Hid (SRow w wr V ((L.take k).map E)) /\ Hid (Since w wr)) (fun _ i _ => n - (intOf i).toNat)
 case atStart => exact ⟨0,Nat.zero_le _,rfl,lH (SRow.nil _ _),HS0⟩
 case round =>
   clear HS0
   obtain ⟨k,hk,rfl,HR,HS⟩:=hrel
   obtain ⟨VA,vc,rfl,-⟩:=HR.out.val
   have hkl:((L.take k).map E).length = k:=by rw [List.length_map,List.length_take,Nat.min_eq_left (by rw [<- HN.out]; exact hk)]
   rw [hkl] at HR ⊢
   by_cases hlt:k < n
   · obtain ⟨⟨y,s⟩,hs⟩:∃ s,L[k]? = some s:=⟨L[k]'(by rw [<- HN.out]; exact hlt),List.getElem?_eq_getElem _⟩
     obtain ⟨b,o,rfl,hax⟩:=AttsS.at2 HX.out k y s hs
     obtain ⟨m0,m1,-⟩:=hax.since HS.out
     have ce:=HC2.out (y,s) (List.mem_of_getElem? hs)
     have hst:(L.take (k + 1)).map E = (L.take k).map E ++ [E (y,s)]:=by rw [take_snoc L k _ hs,List.map_append]; rfl
     have HST:=lH hst
     have i1:(0:Int) <= (k:Int):=by omega
     have i2:(k:Int) < (n:Int):=by omega
     have HR2:=lH (HR.out.since ((Since.refl wr).alloc (.cells #[.int .i64 y,.string s] 35)))
     have HS2:=lH (HS.out.alloc (.cells #[.int .i64 y,.string s] 35))
     obtain ⟨e,he⟩:∃ e,e = E (y,s):=⟨_,rfl⟩
     rw [<- he] at ce HST
     clear hs hax hst HR HS he
     go_wp2_with fail
     refine ce.calls0 ?_
     intro w2 h2
     have HR:=lH (HR2.out.since h2)
     have HS:=lH (HS2.out.step h2)
     have HB1:=lH (show k + 1 <= maxLen by unfold maxLen; omega)
     have HB2:=lH (show (k + 1) * 16 <= 140737488355328 by omega)
     have HR9:=lH (show Rw.Rows w2 w.heap.size (([]:List Row) ++ ⟨9,1,.slice VA k vc,k,((L.take k).map E).map Value.string⟩ :: []) by have h9:=HR.out; unfold SRow at h9; rw [hkl] at h9; exact h9)
     clear h2 HR2 HS2 m0 m1
     go_wp2_with (at_builtin; refine app_rows elemS rfl _ _ (by rfl) w w2 _ rfl [] [] _ k _ (by rfl) HR9.out HS.out #[.string e] 1 1 (by rfl) rfl (s_one e) HB1.out HB2.out ?_; intro V2 w4 HQ2 HT2 _)
     have HF:Hid (SRow w w4 V2 ((L.take (k + 1)).map E)):=lH (by
       rw [HST.out]
       exact SRow.app e (by rw [hkl]; exact HQ2))
     have HS4:=lH HT2
     clear HQ2 HT2
     go_wp2_with fail
     go_roundw
     case rel => exact ⟨k + 1,by omega,by go_num,HF,HS4⟩
     case measure => (simp [intOf] <;> omega)
   · obtain rfl:n = k:=by omega
     have ht:L.take n = L:=by rw [HN.out,List.take_length]
     have hv:StrsS wr (.slice VA n vc) (L.map E):=by have h9:=HR.out.strs; rw [ht] at h9; exact h9
     have HV:=lH hv
     clear hv HR ht hkl
     go_wp2_with fail
     refine c3.calls0 HV.out ?_
     intro v5 w5 hv5 h5
     have HV5:=lH hv5
     obtain ⟨A5,q5,rfl,-,-⟩:=SlR.slice hv5
     have HS5:=lH (HS.out.step h5)
     clear hv5 h5 HV HS
     go_wp2_with fail
     refine (c4 _ _ HV5.out).mono ?_
     rintro _ w6 ⟨rfl,h6⟩
     have HS6:=lH (HS5.out.step h6)
     clear h6 HV5 HS5
     go_wp2_with fail
     go_ret2
     exact ⟨rfl,HS6.out⟩
def packW (L:List A2):Value:=.tuple #[.string (packV L).1,.int .i64 (packV L).2]
theorem cat_size (L:List A2) (h:attOk L = true):(catB (srtB (L.map encA))).size <= 16000:=by
 obtain ⟨h1,h2,h3⟩:=(attOk_iff L).1 h
 unfold catB
 rw [size_bs]
 have h4:=cat_len (srtB (L.map encA)) 483 fun x hx => by
   obtain ⟨p,hp1,rfl⟩:=List.mem_map.1 ((srtB_perm _).mem_iff.1 hx)
   exact enc_size p (h3 p hp1)
 rw [srtB_len,List.length_map] at h4
 omega
theorem enc_of (L:List A2) (h:attOk L = true):∀ p ∈ L,encW p = .tuple #[.string (encA p),.int .i64 0]:=fun p hp => by
 have h1:=(Atm.ok_one p).2 (((attOk_iff L).1 h).2.2 p hp)
 unfold encW
 rw [if_pos h1,(attE_zero _).2 h1]
theorem pack_rd (L:List A2):RdA 18 L (fun x => #[x]) (packW L):=by
 unfold packW packV
 cases h:attOk L with
 | false => exact pack_1 L 11 rfl (check_rd L _ (attE_no h).symm)
 | true =>
   have h1:=((attOk_iff L).1 h).1
   have h2:=cat_size L h
   exact pack_2 L (by omega) encA (check_rd L _ (attE_yes h).symm) (fun p hp => by have h9:=encode_mk p; rw [enc_of L h p hp] at h9; exact h9) _ _ (sort_rd (L.map encA) (by rw [List.length_map]; omega)) (fun w x hx => join_rd _ (by omega) (by rw [srtB_len,List.length_map]; omega) w x hx)
end Atf
namespace Atf
open Att Rw Atm Tlv Setof
theorem pcs_len (s:ByteArray):∀ (f p:Nat) (L:List ByteArray),pcsF s f p = .ok L -> L.length < f:=by
 intro f
 induction f with
 | zero => intro p L h; cases h
 | succ f ih =>
   intro p L h
   unfold pcsF at h
   by_cases h0:s.size <= p
   · rw [if_pos h0] at h
     cases h
     exact Nat.zero_lt_succ _
   · rw [if_neg h0] at h
     obtain ⟨⟨hh,k,x⟩,hq⟩:∃ y,y = Head.dec (s.extract p s.size).data.toList:=⟨_,rfl⟩
     rw [<- hq] at h
     dsimp only at h
     by_cases hx:x ≠ 0
     · rw [if_pos hx] at h; cases h
     rw [if_neg hx] at h
     by_cases hf:s.size - p < k + hh.n
     · rw [if_pos hf] at h; cases h
     rw [if_neg hf] at h
     cases hr:pcsF s f (p + (k + hh.n)) with
     | error y => rw [hr] at h; cases h
     | ok l =>
       rw [hr] at h
       cases h
       have:=ih _ _ hr
       rw [List.length_cons]
       omega
theorem mem_cat (L:List ByteArray):∀ x ∈ L,x.size <= (L.map dl).flatten.length:=by
 induction L with
 | nil => intro x h; cases h
 | cons y l ih =>
   intro x h
   rw [List.map_cons,List.flatten_cons,List.length_append]
   rcases List.mem_cons.1 h with rfl | h
   · show (dl x).length <= _; omega
   · have:=ih x h; omega
theorem pcs_small (s:ByteArray) (hs:s.size <= 65535) (p:Nat) (L:List ByteArray) (hv:pcsV s = (0,p,L)):L.length <= 65535 /\ ∀ x ∈ L,x.size <= 65535:=by
 cases hq:pcsF s (s.size + 1) 0 with
 | error y =>
   obtain ⟨c,q⟩:=y
   have h9:=pcs_err _ _ _ _ _ hq
   unfold pcsV at hv
   rw [if_neg (by omega),hq] at hv
   dsimp only at hv
   exact absurd (Prod.mk.inj hv).1 h9
 | ok l =>
   have hv':=hv
   unfold pcsV at hv'
   rw [if_neg (by omega),hq] at hv'
   dsimp only at hv'
   cases hv'
   have h1:=pcs_len _ _ _ _ hq
   refine ⟨by omega,fun x hx => ?_⟩
   have h2:=mem_cat L x hx
   have h3:=pcs_flat s L hv hs ⟨L,hq⟩
   rw [show L.map dl = L.map fun b => b.data.toList from rfl,h3] at h2
   have h4:s.data.toList.length = s.size:=rfl
   omega
theorem unpack_u (s:ByteArray) (hs:s.size <= 65535):UnR 20 s (unpV s):=by
 obtain ⟨⟨c,p,L⟩,hv⟩:∃ y,pcsV s = y:=⟨_,rfl⟩
 have d1:=pieces_u s hs c p L hv
 have hA:pcsA s = L:=by unfold pcsA; rw [hv]
 by_cases hc:c = 0
 case neg =>
   have hr:unpV s = ([],5):=by
     unfold unpV
     rw [if_pos (Or.inl (by rw [hv]; exact hc))]
   rw [hr]
   exact unp_1 s _ _ (bne_iff_ne.2 (by omega)) L d1
 subst hc
 have c1:=rises_rd L
 cases hri:risesB L with
 | false =>
   have hr:unpV s = ([],5):=by
     unfold unpV
     rw [if_pos (Or.inr (Or.inl (by rw [hA]; exact hri)))]
   rw [hr]
   rw [hri] at c1
   exact unp_2 s _ _ rfl L d1 c1
 | true =>
   rw [hri] at c1
   obtain ⟨h1,h2⟩:=pcs_small s hs p L hv
   refine unp_3 s _ _ rfl L (by omega) d1 c1 decV (fun x hx => decode_mk x (h2 x hx)) (unpV s) (fun x hx => ?_) (fun hz M hp hle => ?_)
   · by_cases h3:∃ q,Ok1 q /\ encA q = x
     · obtain ⟨q,h4,rfl⟩:=h3
       rw [decV_yes q h4]
       exact Or.inl rfl
     · refine Or.inr ⟨by rw [decV_no x h3], ?_⟩
       unfold unpV
       rw [if_pos (Or.inr (Or.inr (by
         rw [hA,List.any_eq_true]
         exact ⟨x,hx,by rw [decV_no x h3]; rfl⟩)))]
   · have hd:decL s = mapD decV L:=by unfold decL mapD; rw [hA]
     have hok:∀ q ∈ decL s,Ok1 q:=fun q hq => by
       rw [hd] at hq
       obtain ⟨x,hx,rfl⟩:=List.mem_map.1 hq
       exact (decV_zero x (hz x hx)).1
     rw [<- hd] at hp
     have hu:=unp_ok M (decL s) hp hle hok
     have hneg:¬ ((pcsV s).1 ≠ 0 ∨ risesB (pcsA s) = false ∨ (pcsA s).any (fun x => decide ((decV x).2 ≠ 0)) = true):=by
       rintro (h4 | h4 | h4)
       · rw [hv] at h4; exact h4 rfl
       · rw [hA,hri] at h4; cases h4
       · rw [hA,List.any_eq_true] at h4
         obtain ⟨x,hx,h5⟩:=h4
         exact (of_decide_eq_true h5) (hz x hx)
     unfold unpV
     rw [if_neg hneg]
     cases hb:unpB (decL s) with
     | true =>
       refine Or.inl ⟨(attE_zero M).2 (by rw [hu,hb]), ?_⟩
       rw [if_pos rfl]
       unfold unpB at hb
       rw [Bool.and_eq_true,decide_eq_true_eq] at hb
       rw [le_fld M (decL s) hp hle hb.1]
     | false =>
       refine Or.inr ⟨attE_no (by rw [hu,hb]), ?_⟩
       rw [if_neg (by decide)]
def bB:ByteArray:=⟨#[98]⟩
def bA:ByteArray:=⟨#[97]⟩
def aw2:List A2:=[(5,bA),(7,bB)]
theorem aw_ok:attOk aw2 = true:=by decide +kernel
theorem aw_set:setR [(7,bB)] 5 bA = (aw2,0):=by decide +kernel
theorem aw_pack:packV aw2 = ((packV aw2).1,0):=by unfold packV; rw [if_pos aw_ok]
set_option maxHeartbeats 4000000 in
theorem awake_core (X:ByteArray) (c1:AtR 11 [(7,bB)] (fun x => #[x,.int .i64 5,.string ⟨#[97]⟩]) (aw2,0)) (c2:RdA 18 aw2 (fun x => #[x]) (.tuple #[.string X,.int .i64 0])) (c3:UnR 20 X (aw2,0)) (c4:RdA 9 aw2 (fun x => #[x,.int .i64 5]) (.tuple #[.string ⟨#[97]⟩,.bool true])) (c5:RdA 15 [(0,⟨#[]⟩)] (fun x => #[x]) (.int .i64 11)):Mak 8 #[] (.bool true):=by
 intro w
 have H1:=lH (show AttsS (w.alloc (.cells #[.int .i64 7,.string ⟨#[98]⟩] 35)) (.slice (some ⟨w.heap.size,0,none⟩) 1 1) [(7,bB)] from SlR.lit w 2 1 (ac (7,bB)) rfl (by decide) #[.int .i64 7,.string ⟨#[98]⟩] rfl 35)
 have HS:=lH ((Since.refl w).alloc (.cells #[.int .i64 7,.string ⟨#[98]⟩] 35))
 go_enter Tryz.func8,Tryz.ntmps8
 go_wp2_with fail
 refine (c1 _ _ H1.out).mono ?_
 rintro _ w1 ⟨y1,rfl,hy1,h1⟩
 replace HS:=lH (HS.out.step h1)
 obtain ⟨A1,q1,e1,-,-⟩:=hy1.slice
 replace e1:y1 = .slice A1 2 q1:=e1
 subst e1
 have HY:=lH hy1
 clear hy1 h1 H1
 go_wp2_with fail
 refine c2.calls0 HY.out ?_
 intro w2 h2
 replace HS:=lH (HS.out.step h2)
 clear h2
 go_wp2_with fail
 refine (c3 _).mono ?_
 rintro _ w3 ⟨y3,rfl,hy3,h3⟩
 replace HS:=lH (HS.out.step h3)
 obtain ⟨A3,q3,e3,-,-⟩:=hy3.slice
 replace e3:y3 = .slice A3 2 q3:=e3
 subst e3
 have HZ:=lH hy3
 clear hy3 h3 HY
 go_wp2_with fail
 refine c4.calls0 HZ.out ?_
 intro w4 h4
 replace HS:=lH (HS.out.step h4)
 clear h4 HZ
 have H5:=lH (show AttsS (w4.alloc (.cells #[.int .i64 0,.string ⟨#[]⟩] 35)) (.slice (some ⟨w4.heap.size,0,none⟩) 1 1) [(0,⟨#[]⟩)] from SlR.lit w4 2 1 (ac (0,⟨#[]⟩)) rfl (by decide) #[.int .i64 0,.string ⟨#[]⟩] rfl 35)
 replace HS:=lH (HS.out.alloc (.cells #[.int .i64 0,.string ⟨#[]⟩] 35))
 go_wp2_with fail
 refine c5.calls0 H5.out ?_
 intro w5 h5
 replace HS:=lH (HS.out.step h5)
 clear h5 H5
 go_wp2_with fail
 go_ret
 exact ⟨rfl,HS.out⟩
theorem awake:Mak 8 #[] (.bool true):=by
 have c2:=pack_rd aw2
 unfold packW at c2
 rw [aw_pack] at c2
 have hz:(packV aw2).1.size <= 65535:=by
   unfold packV
   rw [if_pos aw_ok]
   have:=cat_size aw2 aw_ok
   dsimp only
   omega
 have c3:=unpack_u (packV aw2).1 hz
 rw [unp_pack aw2 aw_ok] at c3
 exact awake_core _ (set_mk _ 5 bA (by show 1 <= 900; omega) _ aw_set.symm) c2 c3 (get_rd aw2 5) (check_rd _ _ rfl)
end Atf
namespace Atf
open Att Rw Atm Tlv Setof
theorem rpieces_u (s:ByteArray) (hs:s.size <= 65535) (c p:Nat) (L:List ByteArray) (hv:pcsV s = (c,p,L)):PcR 48 s (c:Int) (p:Int) L:=by
 intro w
 unfold pcsV at hv
 rw [if_neg (by omega)] at hv
 refine (rpieces_t s hs _ rfl w).mono ?_
 intro e w' h
 unfold PPost at h
 cases hq:pcsF s (s.size + 1) 0 with
 | error x =>
   obtain ⟨c',p'⟩:=x
   rw [hq] at h hv
   dsimp only at h hv
   cases hv
   exact ⟨_,h.1,StrsS.nil _,h.2⟩
 | ok l =>
   rw [hq] at h hv
   dsimp only at h hv
   cases hv
   exact h
theorem getB_mem (L:List A2) (t:Int):getB L t = decide (t ∈ tags L):=by
 unfold getB getP tags
 rw [Bool.eq_iff_iff,decide_eq_true_eq,List.find?_isSome,List.mem_map]
 exact ⟨fun ⟨q,h1,h2⟩ => ⟨q,h1,of_decide_eq_true h2⟩,fun ⟨q,h1,h2⟩ => ⟨q,h1,decide_eq_true h2⟩⟩
def twB (ps:List A2):Bool:=!decide (tags ps).Nodup
theorem twB_snoc (ps:List A2) (a:A2):twB (ps ++ [a]) = (twB ps || getB (fldA ps) a.1):=by
 have h1:a.1 ∈ tags (fldA ps) ↔ a.1 ∈ tags ps:=((fld_perm ps).map Prod.fst).mem_iff
 have h2:(tags (ps ++ [a])).Nodup ↔ (tags ps).Nodup /\ a.1 ∉ tags ps:=by
   unfold tags
   rw [List.map_append,List.nodup_append]
   simp only [List.map_cons,List.map_nil,List.mem_singleton]
   constructor
   · rintro ⟨g1,-,g3⟩
     exact ⟨g1,fun h => g3 _ h _ rfl rfl⟩
   · rintro ⟨g1,g2⟩
     exact ⟨g1,by simp,fun x hx y hy e => g2 (by rw [<- hy,<- e]; exact hx)⟩
 unfold twB
 rw [getB_mem]
 by_cases g1:(tags ps).Nodup <;> by_cases g2:a.1 ∈ tags ps
 · rw [decide_eq_false (fun h => (h2.1 h).2 g2),decide_eq_true g1,decide_eq_true (h1.2 g2)]; rfl
 · rw [decide_eq_true (h2.2 ⟨g1,g2⟩),decide_eq_true g1,decide_eq_false (fun h => g2 (h1.1 h))]; rfl
 · rw [decide_eq_false (fun h => g1 (h2.1 h).1),decide_eq_false g1,decide_eq_true (h1.2 g2)]; rfl
 · rw [decide_eq_false (fun h => g1 (h2.1 h).1),decide_eq_false g1,decide_eq_false (fun h => g2 (h1.1 h))]; rfl
set_option maxHeartbeats 4000000 in
theorem runp_1 (s:ByteArray) (C P:Int) (hC:(C != 0) = true) (L:List ByteArray) (d1:PcR 48 s C P L):UnR 21 s ([],5):=by
 intro w
 have HS:=lH (Since.refl w)
 go_enter Tryz.func21,Tryz.ntmps21
 go_wp2_with fail
 refine (d1 _).mono ?_
 rintro _ w1 ⟨u1,rfl,hU,h1⟩
 obtain ⟨A1,q1,e1,-,-⟩:=SlR.slice hU
 subst e1
 unfold F2
 replace HS:=lH (HS.out.step h1)
 have r1:(w1.alloc (.cells #[.int .i64 0,.int .i64 0] 65)).heap[w1.heap.size]? = some (.cells #[.int .i64 0,.int .i64 0] 65 (0,0)):=heap_alloc_new w1 _
 have hb:=lH (Tree.hb_row (K:=KT) (C':=#[.int .i64 C,.int .i64 P]) ((Since.refl w1).alloc _) (Nat.le_refl _) trivial r1)
 have y0:=hb.out.cell 0 _ rfl
 replace HS:=lH (HS.out.step hb.out.since)
 have HU:=lH (SlR.since hU hb.out.since)
 clear hU h1
 go_wp2_with (refine RwL.at_store (ty:=65) rfl ?_; refine wpList_store_row rfl 65 _ _ rfl w1.heap.size #[.int .i64 C,.int .i64 P] (by rfl) (by rfl) _ _ r1 (f2_info C P) rfl (f2_one C P) ?_; generalize hw2:(w1.alloc (.cells #[.int .i64 0,.int .i64 0] 65)).setRow w1.heap.size #[.int .i64 C,.int .i64 P] = w2 at HS HU y0 ⊢; clear hw2 r1 hb)
 go_ret2
 exact ⟨_,rfl,AttsS.nil _,HS.out⟩
set_option maxHeartbeats 4000000 in
theorem runp_2 (s:ByteArray) (C P:Int) (hC:(C != 0) = false) (L:List ByteArray) (d1:PcR 48 s C P L) (c1:RdS 49 L (fun x => #[x]) (.bool false)):UnR 21 s ([],5):=by
 intro w
 have HS:=lH (Since.refl w)
 go_enter Tryz.func21,Tryz.ntmps21
 go_wp2_with fail
 refine (d1 _).mono ?_
 rintro _ w1 ⟨u1,rfl,hU,h1⟩
 obtain ⟨A1,q1,e1,-,-⟩:=SlR.slice hU
 subst e1
 unfold F2
 replace HS:=lH (HS.out.step h1)
 have r1:(w1.alloc (.cells #[.int .i64 0,.int .i64 0] 65)).heap[w1.heap.size]? = some (.cells #[.int .i64 0,.int .i64 0] 65 (0,0)):=heap_alloc_new w1 _
 have hb:=lH (Tree.hb_row (K:=KT) (C':=#[.int .i64 C,.int .i64 P]) ((Since.refl w1).alloc _) (Nat.le_refl _) trivial r1)
 have y0:=hb.out.cell 0 _ rfl
 replace HS:=lH (HS.out.step hb.out.since)
 have HU:=lH (SlR.since hU hb.out.since)
 clear hU h1
 go_wp2_with (refine RwL.at_store (ty:=65) rfl ?_; refine wpList_store_row rfl 65 _ _ rfl w1.heap.size #[.int .i64 C,.int .i64 P] (by rfl) (by rfl) _ _ r1 (f2_info C P) rfl (f2_one C P) ?_; generalize hw2:(w1.alloc (.cells #[.int .i64 0,.int .i64 0] 65)).setRow w1.heap.size #[.int .i64 C,.int .i64 P] = w2 at HS HU y0 ⊢; clear hw2 r1 hb)
 refine c1.calls0 HU.out ?_
 intro w3 h3
 replace HS:=lH (HS.out.step h3)
 clear h3
 go_wp2_with fail
 go_ret2
 exact ⟨_,rfl,AttsS.nil _,HS.out⟩
set_option maxHeartbeats 8000000 in
theorem runp_3 (s:ByteArray) (C P:Int) (hC:(C != 0) = false) (L:List ByteArray) (hm:L.length <= 1000) (d1:PcR 48 s C P L) (c1:RdS 49 L (fun x => #[x]) (.bool true)) (D:ByteArray -> A2 × Int) (cD:∀ x ∈ L,Mak 25 #[.string x] (decT (D x))) (r:List A2 × Int)
   (hbad:∀ x ∈ L,(D x).2 = 0 ∨ ((D x).2 = 5 /\ r = ([],5)))
   (hgood:(∀ x ∈ L,(D x).2 = 0) -> (unpB (mapD D L) = true /\ r = (fldA (mapD D L),0)) ∨ (unpB (mapD D L) = false /\ r = ([],11))):UnR 21 s r:=by
 obtain ⟨l0,hl0⟩:∃ n,n = L.length:=⟨_,rfl⟩
 have HL0:=lH hl0
 have HCD:=lH cD
 have HBD:=lH hbad
 have HGD:=lH hgood
 rw [<- hl0] at hm
 clear cD hbad hgood
 intro w
 have HS:=lH (Since.refl w)
 go_enter Tryz.func21,Tryz.ntmps21
 go_wp2_with fail
 refine (d1 _).mono ?_
 rintro _ w1 ⟨u1,rfl,hU,h1⟩
 obtain ⟨A1,q1,e1,-,-⟩:=SlR.slice hU
 subst e1
 unfold F2
 replace HS:=lH (HS.out.step h1)
 have r1:(w1.alloc (.cells #[.int .i64 0,.int .i64 0] 65)).heap[w1.heap.size]? = some (.cells #[.int .i64 0,.int .i64 0] 65 (0,0)):=heap_alloc_new w1 _
 have hb:=lH (Tree.hb_row (K:=KT) (C':=#[.int .i64 C,.int .i64 P]) ((Since.refl w1).alloc _) (Nat.le_refl _) trivial r1)
 have y0:=hb.out.cell 0 _ rfl
 replace HS:=lH (HS.out.step hb.out.since)
 have HU:=lH (SlR.since hU hb.out.since)
 clear hU h1
 rw [<- hl0] at HU ⊢
 clear hl0
 go_wp2_with (refine RwL.at_store (ty:=65) rfl ?_; refine wpList_store_row rfl 65 _ _ rfl w1.heap.size #[.int .i64 C,.int .i64 P] (by rfl) (by rfl) _ _ r1 (f2_info C P) rfl (f2_one C P) ?_; generalize hw2:(w1.alloc (.cells #[.int .i64 0,.int .i64 0] 65)).setRow w1.heap.size #[.int .i64 C,.int .i64 P] = w2 at HS HU y0 ⊢; clear hw2 r1 hb)
 refine c1.calls0 (by show SlR w2 1 _ L.length _; rw [<- HL0.out]; exact HU.out) ?_
 intro w3 h3
 have HS0:=lH (HS.out.step h3)
 replace HU:=lH (SlR.since HU.out h3)
 clear h3 HS y0
 go_wp2_with fail
 go_loopw [6,7,8] (fun V tw i wr => ∃ k:Nat,k <= l0 /\ i = .int .i64 (k:Int) /\ tw = .bool (twB (mapD D (L.take k))) /\ Hid (∀ x ∈ L.take k,(D x).2 = 0) /\ Hid (AttsS wr V (fldA (mapD D (L.take k)))) /\ Hid (Since w3 wr)) (fun _ _ i _ => l0 - (intOf i).toNat)
 case atStart => exact ⟨0,Nat.zero_le _,rfl,rfl,lH (by simp),lH (AttsS.nil _),lH (Since.refl w3)⟩
 case round =>
   obtain ⟨k,hk,rfl,rfl,HA,HV,HS⟩:=hrel
   obtain ⟨VA,vc,rfl,-,-⟩:=HV.out.slice
   have hkl:=mapD_len D L k (by rw [<- HL0.out]; exact hk)
   have hfl:(fldA (mapD D (L.take k))).length = k:=by rw [(fld_perm _).length_eq,hkl]
   obtain ⟨O,hO⟩:∃ O,O = fldA (mapD D (L.take k)):=⟨_,rfl⟩
   obtain ⟨tw,htw⟩:∃ q,q = twB (mapD D (L.take k)):=⟨_,rfl⟩
   rw [<- hO] at hfl HV
   rw [hfl] at HV
   rw [<- htw,<- hO,hfl]
   by_cases hlt:k < l0
   · obtain ⟨x,hx⟩:∃ x,L[k]? = some x:=⟨_,List.getElem?_eq_getElem (by rw [<- HL0.out]; exact hlt)⟩
     obtain ⟨b,o,c9,hv,f1,f2,f3,f4⟩:=SlR.form HU.out (by omega)
     obtain ⟨rfl,-,rfl⟩:=Value.slice.inj hv
     have m0:=(Below.cell HS.out (p:=⟨b,o + k,none⟩) f3).trans (f4 k (.string x) (by rw [List.getElem?_map,hx]; rfl))
     have cd:=HCD.out x (List.mem_of_getElem? hx)
     have hbd:=HBD.out x (List.mem_of_getElem? hx)
     have hst:=mapD_snoc D L k x hx
     have hts:=Att.take_snoc L k x hx
     obtain ⟨⟨⟨t,v⟩,e⟩,hD⟩:∃ y,y = D x:=⟨_,rfl⟩
     rw [<- hD] at cd hbd hst
     unfold decT at cd
     dsimp only at cd hbd hst
     have htn:twB (mapD D (L.take (k + 1))) = (tw || getB O t):=by rw [hst,twB_snoc,<- hO,<- htw]
     have hfn:fldA (mapD D (L.take (k + 1))) = withA O (t,v):=by rw [hst,fld_snoc,<- hO]
     have i1:(0:Int) <= (k:Int):=by omega
     have i2:(k:Int) < (l0:Int):=by omega
     have HST:=lH hfn
     have HTS:=lH (And.intro hts hD)
     have hol:O.length <= 1000:=by omega
     have HFL:=lH hfl
     clear hx hv f1 f2 f3 f4 hst hts hD hfn hO htw hkl hfl
     rcases hbd with rfl | ⟨rfl,hr⟩
     · go_wp2_with fail
       refine cd.calls0 ?_
       intro w4 h4
       have HBX:=lH (At2.box w4 t v 35)
       have HS4:=lH ((HS.out.step h4).alloc (.cells #[.int .i64 t,.string v] 35))
       have HV4:=lH ((HV.out.since h4).since ((Since.refl w4).alloc (.cells #[.int .i64 t,.string v] 35)))
       have cg:=rget_rd O t
       unfold getV at cg
       have HA5:Hid (∀ x ∈ L.take (k + 1),(D x).2 = 0):=lH (fun z hz => by
         rw [HTS.out.1] at hz
         rcases List.mem_append.1 hz with hz | hz
         · exact HA.out z hz
         · rw [List.mem_singleton.1 hz,<- HTS.out.2])
       have HTW:=lH htn
       obtain ⟨gs,hgs⟩:∃ g,g = getS O t:=⟨_,rfl⟩
       rw [<- hgs] at cg
       clear h4 HS HV m0 HA HTS htn hgs
       cases hq:getB O t
       · rw [hq] at cg HTW
         clear hq
         go_wp2_with fail
         refine cg.calls0 HV4.out ?_
         intro w5 h5
         have HS5:=lH (HS4.out.step h5)
         have HV5:=lH (HV4.out.since h5)
         obtain ⟨n0,n1,-⟩:=HBX.out.since h5
         rw [Nat.zero_add] at n1
         clear h5 HS4 HV4
         go_wp2_with fail
         refine (with_mk O t v hol w5 _ HV5.out).mono ?_
         rintro _ w6 ⟨y6,rfl,ho6,h6⟩
         have hv6:AttsS w6 y6 (fldA (mapD D (L.take (k + 1)))):=by rw [HST.out]; exact AttsS.own ho6
         have HV6:=lH hv6
         have HS6:=lH (HS5.out.step h6)
         clear hv6 ho6 h6 HV5 HS5 n0 n1
         go_wp2_with fail
         go_roundw
         case rel => exact ⟨k + 1,by omega,by go_num,by rw [HTW.out,Bool.or_false],HA5,HV6,HS6⟩
         case measure => (simp [intOf] <;> omega)
       · rw [hq] at cg HTW
         clear hq
         go_wp2_with fail
         refine cg.calls0 HV4.out ?_
         intro w5 h5
         have HS5:=lH (HS4.out.step h5)
         have HV5:=lH (HV4.out.since h5)
         obtain ⟨n0,n1,-⟩:=HBX.out.since h5
         rw [Nat.zero_add] at n1
         clear h5 HS4 HV4
         go_wp2_with fail
         refine (with_mk O t v hol w5 _ HV5.out).mono ?_
         rintro _ w6 ⟨y6,rfl,ho6,h6⟩
         have hv6:AttsS w6 y6 (fldA (mapD D (L.take (k + 1)))):=by rw [HST.out]; exact AttsS.own ho6
         have HV6:=lH hv6
         have HS6:=lH (HS5.out.step h6)
         clear hv6 ho6 h6 HV5 HS5 n0 n1
         go_wp2_with fail
         go_roundw
         case rel => exact ⟨k + 1,by omega,by go_num,by rw [HTW.out,Bool.or_true],HA5,HV6,HS6⟩
         case measure => (simp [intOf] <;> omega)
     · go_wp2_with fail
       refine cd.calls0 ?_
       intro w4 h4
       have HS4:=lH (HS0.out.step ((HS.out.step h4).alloc (.cells #[.int .i64 t,.string v] 35)))
       clear h4 HS HV m0
       go_wp2_with fail
       go_ret2
       subst hr
       exact ⟨_,rfl,AttsS.nil _,HS4.out⟩
   · obtain rfl:l0 = k:=by omega
     have ht:L.take l0 = L:=by rw [HL0.out,List.take_length]
     rw [ht] at HA hO htw hkl
     have hS9:=lH (HS0.out.step HS.out)
     have hgd:=HGD.out HA.out
     have hub:unpB (mapD D L) = (!tw && decide (l0 <= 32)):=by
       unfold unpB
       rw [htw,hkl]
       unfold twB
       rw [Bool.not_not]
     rw [hub] at hgd
     rw [<- hO] at hgd
     have HVO:=lH HV.out
     clear HV HS hO htw hkl ht hub hfl
     cases tw
     · by_cases h32:l0 <= 32
       · have t1:decide ((32:Int) < (l0:Int)) = false:=decide_eq_false (by omega)
         have hr:r = (O,0):=by
           rcases hgd with ⟨-,g⟩ | ⟨g,-⟩
           · exact g
           · rw [decide_eq_true h32] at g; cases g
         have HRR:=lH hr
         clear hgd hr h32
         go_wp2_with fail
         go_ret2
         rw [HRR.out]
         exact ⟨_,rfl,HVO.out,hS9.out⟩
       · have t1:decide ((32:Int) < (l0:Int)) = true:=decide_eq_true (by omega)
         have hr:r = ([],11):=by
           rcases hgd with ⟨g,-⟩ | ⟨-,g⟩
           · rw [decide_eq_false h32] at g; cases g
           · exact g
         have HRR:=lH hr
         clear hgd hr h32
         go_wp2_with fail
         go_ret2
         rw [HRR.out]
         exact ⟨_,rfl,AttsS.nil _,hS9.out⟩
     · have hr:r = ([],11):=by
         rcases hgd with ⟨g,-⟩ | ⟨-,g⟩
         · cases g
         · exact g
       have HRR:=lH hr
       clear hgd hr
       go_wp2_with fail
       go_ret2
       rw [HRR.out]
       exact ⟨_,rfl,AttsS.nil _,hS9.out⟩
theorem runpack_u (s:ByteArray) (hs:s.size <= 1000):UnR 21 s (unpV s):=by
 obtain ⟨⟨c,p,L⟩,hv⟩:∃ y,pcsV s = y:=⟨_,rfl⟩
 have d1:=rpieces_u s (by omega) c p L hv
 have hA:pcsA s = L:=by unfold pcsA; rw [hv]
 by_cases hc:c = 0
 case neg =>
   have hr:unpV s = ([],5):=by
     unfold unpV
     rw [if_pos (Or.inl (by rw [hv]; exact hc))]
   rw [hr]
   exact runp_1 s _ _ (bne_iff_ne.2 (by omega)) L d1
 subst hc
 obtain ⟨-,h2⟩:=pcs_small s (by omega) p L hv
 have c1:=rrises_rd L (fun x hx => by have:=h2 x hx; omega)
 cases hri:risesB L with
 | false =>
   have hr:unpV s = ([],5):=by
     unfold unpV
     rw [if_pos (Or.inr (Or.inl (by rw [hA]; exact hri)))]
   rw [hr]
   rw [hri] at c1
   exact runp_2 s _ _ rfl L d1 c1
 | true =>
   rw [hri] at c1
   have h1:L.length <= 1000:=by
     cases hq:pcsF s (s.size + 1) 0 with
     | error y =>
       obtain ⟨c,q⟩:=y
       unfold pcsV at hv
       rw [if_neg (by omega),hq] at hv
       dsimp only at hv
       cases hv
       exact Nat.zero_le _
     | ok l =>
       unfold pcsV at hv
       rw [if_neg (by omega),hq] at hv
       dsimp only at hv
       cases hv
       have:=pcs_len _ _ _ _ hq
       omega
   refine runp_3 s _ _ rfl L h1 d1 c1 decV (fun x hx => rdecode_mk x (h2 x hx)) (unpV s) (fun x hx => ?_) (fun hz => ?_)
   · by_cases h3:∃ q,Ok1 q /\ encA q = x
     · obtain ⟨q,h4,rfl⟩:=h3
       rw [decV_yes q h4]
       exact Or.inl rfl
     · refine Or.inr ⟨by rw [decV_no x h3], ?_⟩
       unfold unpV
       rw [if_pos (Or.inr (Or.inr (by
         rw [hA,List.any_eq_true]
         exact ⟨x,hx,by rw [decV_no x h3]; rfl⟩)))]
   · have hd:decL s = mapD decV L:=by unfold decL mapD; rw [hA]
     have hneg:¬ ((pcsV s).1 ≠ 0 ∨ risesB (pcsA s) = false ∨ (pcsA s).any (fun x => decide ((decV x).2 ≠ 0)) = true):=by
       rintro (h4 | h4 | h4)
       · rw [hv] at h4; exact h4 rfl
       · rw [hA,hri] at h4; cases h4
       · rw [hA,List.any_eq_true] at h4
         obtain ⟨x,hx,h5⟩:=h4
         exact (of_decide_eq_true h5) (hz x hx)
     rw [<- hd]
     unfold unpV
     rw [if_neg hneg]
     cases hb:unpB (decL s) with
     | true => exact Or.inl ⟨rfl,by rw [if_pos rfl]⟩
     | false => exact Or.inr ⟨rfl,by rw [if_neg (by decide)]⟩
end Atf
namespace Atf
open Att Rw Atm Tlv Setof
theorem SRow.addr {w wr:World} {V:Value} {l:List ByteArray} (h:SRow w wr V l):Addressed V:=by
 rcases h.get.2 with ⟨h0,h1⟩ | ⟨g',cap,cur,hv,_⟩
 · have h2:l.length = 0:=h1
   exact Or.inl h0
 · exact Or.inr ⟨_,_,_,hv⟩
theorem cat_snoc (L:List ByteArray) (k:Nat) (x:ByteArray) (h:L[k]? = some x):catB (L.take (k + 1)) = catB (L.take k) ++ x:=by
 unfold catB
 rw [Att.take_snoc L k x h,List.map_append,List.flatten_append,<- Tree.bs_app]
 congr 1
 simp only [List.map_cons,List.map_nil,List.flatten_cons,List.flatten_nil,List.append_nil]
 exact (bs_list x).symm
theorem rpack_1 (L:List A2) (c1:RdA 16 L (fun x => #[x]) (.int .i64 11)):RdA 19 L (fun x => #[x]) (.tuple #[.string ⟨#[]⟩,.int .i64 11]):=by
 intro w x hx
 obtain ⟨A,c,rfl,-,-⟩:=hx.slice
 have HX:=lH hx
 have HS:=lH (Since.refl w)
 clear hx
 go_enter Tryz.func19,Tryz.ntmps19
 go_wp2_with fail
 refine c1.calls0 HX.out ?_
 intro w1 h1
 replace HS:=lH (HS.out.step h1)
 clear h1
 go_wp2_with fail
 go_ret2
 exact ⟨rfl,HS.out⟩
set_option maxHeartbeats 8000000 in
theorem rpack_2 (L:List A2) (hm:L.length <= 1000) (E:A2 -> ByteArray) (c1:RdA 16 L (fun x => #[x]) (.int .i64 0)) (c2:∀ p ∈ L,Mak 23 #[.agg #[.int .i64 p.1,.string p.2]] (.tuple #[.string (E p),.int .i64 0])) (S:List ByteArray) (hSl:S.length <= 1000) (hSS:∀ k,(catB (S.take k)).size <= 1000000) (c3:MkSA 42 (L.map E) S):RdA 19 L (fun x => #[x]) (.tuple #[.string (catB S),.int .i64 0]):=by
 intro w x hx
 obtain ⟨A,c,rfl,-,-⟩:=hx.slice
 obtain ⟨n,hn⟩:∃ n,n = L.length:=⟨_,rfl⟩
 have HX:=lH hx
 have HN:=lH hn
 have HC2:=lH c2
 have HSS:=lH hSS
 rw [<- hn] at hm ⊢
 have HS:=lH (Since.refl w)
 clear hx hn c2 hSS
 go_enter Tryz.func19,Tryz.ntmps19
 go_wp2_with fail
 refine c1.calls0 (by rw [HN.out]; exact HX.out) ?_
 intro w1 h1
 have HS0:=lH (HS.out.step h1)
 clear h1 HS
 go_wp2_with fail
 go_loopw [4,5] (fun V i wr => ∃ k:Nat,k <= n /\ i = .int .i64 (k:Int) /\ Hid (SRow w wr V ((L.take k).map E)) /\ Hid (Since w wr)) (fun _ i _ => n - (intOf i).toNat)
 case atStart => exact ⟨0,Nat.zero_le _,rfl,lH (SRow.nil _ _),HS0⟩
 case round =>
   clear HS0
   obtain ⟨k,hk,rfl,HR,HS⟩:=hrel
   obtain ⟨VA,vc,rfl,-⟩:=HR.out.val
   have hkl:((L.take k).map E).length = k:=by rw [List.length_map,List.length_take,Nat.min_eq_left (by rw [<- HN.out]; exact hk)]
   rw [hkl] at HR ⊢
   by_cases hlt:k < n
   · obtain ⟨⟨y,s⟩,hs⟩:∃ s,L[k]? = some s:=⟨L[k]'(by rw [<- HN.out]; exact hlt),List.getElem?_eq_getElem _⟩
     obtain ⟨b,o,rfl,hax⟩:=AttsS.at2 HX.out k y s hs
     obtain ⟨m0,m1,-⟩:=hax.since HS.out
     have ce:=HC2.out (y,s) (List.mem_of_getElem? hs)
     have hst:(L.take (k + 1)).map E = (L.take k).map E ++ [E (y,s)]:=by rw [Att.take_snoc L k _ hs,List.map_append]; rfl
     have HST:=lH hst
     have i1:(0:Int) <= (k:Int):=by omega
     have i2:(k:Int) < (n:Int):=by omega
     obtain ⟨e,he⟩:∃ e,e = E (y,s):=⟨_,rfl⟩
     rw [<- he] at ce HST
     have HR2:=HR
     have HS2:=HS
     clear hs hax hst HR HS he
     go_wp2_with fail
     refine ce.calls0 ?_
     intro w2 h2
     have HR:=lH (HR2.out.since h2)
     have HS:=lH (HS2.out.step h2)
     have HB1:=lH (show k + 1 <= maxLen by unfold maxLen; omega)
     have HB2:=lH (show (k + 1) * 16 <= 140737488355328 by omega)
     have HR9:=lH (show Rw.Rows w2 w.heap.size (([]:List Row) ++ ⟨9,1,.slice VA k vc,k,((L.take k).map E).map Value.string⟩ :: []) by have h9:=HR.out; unfold SRow at h9; rw [hkl] at h9; exact h9)
     clear h2 HR2 HS2 m0 m1
     go_wp2_with (at_builtin; refine app_rows elemS rfl _ _ (by rfl) w w2 _ rfl [] [] _ k _ (by rfl) HR9.out HS.out #[.string e] 1 1 (by rfl) rfl (s_one e) HB1.out HB2.out ?_; intro V2 w4 HQ2 HT2 _)
     have HF:Hid (SRow w w4 V2 ((L.take (k + 1)).map E)):=lH (by
       rw [HST.out]
       exact SRow.app e (by rw [hkl]; exact HQ2))
     have HS4:=lH HT2
     clear HQ2 HT2
     go_wp2_with fail
     go_roundw
     case rel => exact ⟨k + 1,by omega,by go_num,HF,HS4⟩
     case measure => (simp [intOf] <;> omega)
   · obtain rfl:n = k:=by omega
     have ht:L.take n = L:=by rw [HN.out,List.take_length]
     have hv:StrsS wr (.slice VA n vc) (L.map E):=by have h9:=HR.out.strs; rw [ht] at h9; exact h9
     have HV:=lH hv
     have HAd:=lH (SRow.addr HR.out)
     clear hv HR ht hkl
     go_wp2_with fail
     refine c3.calls0 HV.out HAd.out ?_
     intro v5 w5 hv5 h5
     have HV5:=lH hv5
     obtain ⟨A5,q5,rfl,-,-⟩:=SlR.slice hv5
     have HS5:=lH (HS.out.step h5)
     obtain ⟨z,hz⟩:∃ z,z = S.length:=⟨_,rfl⟩
     have HZ:=lH hz
     rw [<- hz] at HV5 hSl ⊢
     clear hv5 h5 HV HS hz
     go_wp2_with fail
     go_loop [8,9] (fun J i => ∃ k:Nat,k <= z /\ i = .int .i64 (k:Int) /\ J = .string (catB (S.take k))) (fun _ i => z - (intOf i).toNat)
     case atStart => exact ⟨0,Nat.zero_le _,rfl,rfl⟩
     case round =>
       obtain ⟨k,hk,rfl,rfl⟩:=hrel
       by_cases hlt:k < z
       · obtain ⟨b,o,c9,hv,f1,f2,f3,f4⟩:=SlR.form HV5.out (by rw [<- HZ.out]; omega)
         obtain ⟨rfl,-,rfl⟩:=Value.slice.inj hv
         obtain ⟨y,hy⟩:∃ y,S[k]? = some y:=⟨_,List.getElem?_eq_getElem (by rw [<- HZ.out]; exact hlt)⟩
         have m0:=f4 k (.string y) (by rw [List.getElem?_map,hy]; rfl)
         have HST:=lH (cat_snoc S k y hy)
         obtain ⟨J,hJ⟩:∃ J,J = catB (S.take k):=⟨_,rfl⟩
         have hsz:=HSS.out (k + 1)
         rw [<- hJ] at HST ⊢
         rw [HST.out,ByteArray.size_append] at hsz
         have hsz2:¬ (9223372036854775807 < J.size + y.size):=by omega
         have i1:(0:Int) <= (k:Int):=by omega
         have i2:(k:Int) < (z:Int):=by omega
         clear hv f1 f2 f3 f4 hy hJ hsz
         go_wp2_with fail
         go_round
         case rel => exact ⟨k + 1,by omega,by go_num,by rw [HST.out]⟩
         case measure => (simp [intOf] <;> omega)
       · obtain rfl:z = k:=by omega
         have ht:S.take z = S:=by rw [HZ.out,List.take_length]
         rw [ht]
         clear ht
         obtain ⟨J,hJ⟩:∃ J,J = catB S:=⟨_,rfl⟩
         rw [<- hJ]
         have HJ:=lH hJ
         clear hJ
         go_wp2_with fail
         go_ret2
         exact ⟨by rw [<- HJ.out]; rfl,HS5.out⟩
theorem cat_take (S:List ByteArray) (k:Nat):(catB (S.take k)).size <= (catB S).size:=by
 unfold catB
 rw [size_bs,size_bs]
 conv => rhs; rw [<- List.take_append_drop k S,List.map_append,List.flatten_append,List.length_append]
 omega
theorem rpack_rd (L:List A2):RdA 19 L (fun x => #[x]) (packW L):=by
 unfold packW packV
 cases h:attOk L with
 | false => exact rpack_1 L (rcheck_rd L _ (attE_no h).symm)
 | true =>
   have h1:=((attOk_iff L).1 h).1
   have h2:=cat_size L h
   refine rpack_2 L (by omega) encA (rcheck_rd L _ (attE_yes h).symm) (fun p hp => by have h9:=rencode_mk p; rw [enc_of L h p hp] at h9; exact h9) (srtB (L.map encA)) (by rw [srtB_len,List.length_map]; omega) (fun k => by have:=cat_take (srtB (L.map encA)) k; omega) (rsort_rd (L.map encA) (by rw [List.length_map]; omega) (fun x hx => ?_))
   obtain ⟨p,hp,rfl⟩:=List.mem_map.1 hx
   have:=enc_size p (((attOk_iff L).1 h).2.2 p hp)
   omega
end Atf
end Go.Proofs.YtpanhhjkecebkaaGreat
