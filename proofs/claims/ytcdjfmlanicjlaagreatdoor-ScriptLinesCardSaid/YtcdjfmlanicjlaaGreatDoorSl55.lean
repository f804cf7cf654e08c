import Derived.Test.YtcdjfmlanicjlaaGreatDoorSl54
set_option maxRecDepth 100000
namespace Go.Proofs.YtcdjfmlanicjlaaGreatDoor
open Go.RowKit
namespace Scr
open Rw RwL Kind
theorem results_t_cell {P:Program} {fn:Func} {p u:Tmp} {ty:TypeId} (h:fn.results = #[.tmp u,.cell p ty]) (tmps:Array Value) (w:World) (g:Nat) (t:TypeId) (cs:Array Value) (fr:Nat × Nat) (d:TypeDesc) (v:Value)
   (hp:tmps.getD p undef = .pointer (some ⟨g,0,none⟩)) (hv:tmps.getD u undef = v) (hg:w.heap[g]? = some (.cells cs t fr))
   (hu:P.underlying ty = some d) (hd:(match d with | .struct _ | .array _ _ => true | _ => false) = true) (hi:(P.info? ty).map (·.size) = some cs.size) :
   (results fn tmps).run P w = .ok (.tuple #[v,.agg cs]) w:=by
 subst hv
 have hp':tmps[p]?.getD undef = .pointer (some ⟨g,0,none⟩):=by simpa using hp
 simp [results,h,hp',asAddr,run_loadVar_row w g t ty cs fr d hg hu hd hi]
theorem f2_info (a b:Value):(Tryz.prog.info? 39).map (·.size) = some (#[a,b]:Array Value).size:=by kernel_rfl
theorem f2_one (a b:Int):(#[.int .i64 a,.int .i64 b]:Array Value).all (·.oneCell') = true:=by
 rw [Array.all_eq_true]
 intro j hj
 have hj2:j < 2:=hj
 match j,hj2 with
 | 0,_ | 1,_ => rfl
theorem row_cell {W:World} {g:Nat} {C:Array Value} {t:TypeId} (h:W.heap[g]? = some (.cells C t (0,0))) (i:Nat) (v:Value) (hv:C[i]? = some v):W.cell? ⟨g,i,none⟩ = some v:=by
 unfold World.cell?
 rw [h]
 simpa using hv
def StepsS (w:World) (v:Value) (l:List St):Prop:=SlR w 6 v l.length (l.flatMap sc)
def LinR (f:Nat) (t:ByteArray) (R:List St × Int × Int):Prop:=∀ w,Tab2 w -> Calls Tryz.prog f #[.string t] w fun e w' => ∃ V,e = .returned (.tuple #[V,.agg #[.int .i64 R.2.1,.int .i64 R.2.2]]) /\ StepsS w' V R.1 /\ Since w w'
theorem count_ret (t:ByteArray) (n:Nat) (h:(Sp.pcs 10 t.data.toList).length = n + 1):Ret 33 #[.string t,.string ⟨#[10]⟩] (.int .i64 (n:Int)):=by
 intro w
 refine (Tryz.strings_Count_one t 10 w).mono ?_
 rintro _ _ ⟨rfl,rfl⟩
 have e:Lib.countByte t.data.toList 10 = n:=by
   have h1:=count_pcs 10 t.data.toList
   unfold Lib.countByte
   omega
 rw [e]
 exact ⟨rfl,rfl⟩
theorem suf_ret (t:ByteArray) (hm:t.size <= 1000000) (b:Bool) (h:b = Lib.hasSuffix t.data.toList [10]):Ret 34 #[.string t,.string ⟨#[10]⟩] (.bool b):=by
 intro w
 refine (Tryz.strings_HasSuffix t ⟨#[10]⟩ w (by omega)).mono ?_
 rintro _ _ ⟨rfl,rfl⟩
 rw [h]
 exact ⟨rfl,rfl⟩
set_option maxHeartbeats 16000000 in
theorem lines_k (t:ByteArray) (hm:t.size <= 1000000):LinR 15 t (linV Rok candP t.data.toList):=by
 intro w hT
 have HT:=lH hT
 obtain ⟨R,hR⟩:∃ R,R = linV Rok candP t.data.toList:=⟨_,rfl⟩
 rw [<- hR]
 have HR:=lH hR
 obtain ⟨n,hn⟩:∃ n,(Sp.pcs 10 t.data.toList).length = n + 1:=⟨(Sp.pcs 10 t.data.toList).length - 1,by
   have:0 < (Sp.pcs 10 t.data.toList).length:=List.length_pos_iff.2 (Sp.pcs_ne 10 _)
   omega⟩
 have HN:=lH hn
 have hnb:n <= 1000000:=by
   have h1:=count_pcs 10 t.data.toList
   have h2:=List.count_le_length (a:=(10:UInt8)) (l:=t.data.toList)
   have h3:t.data.toList.length = t.size:=rfl
   omega
 have c1:=count_ret t n hn
 have hl:=last_pcs 10 t.data.toList
 have HM:=lH hm
 have HI:=lH (ni_new w)
 have hg:=lH (ni_res HI)
 by_cases hlast:(Sp.pcs 10 t.data.toList).getLastD [] ≠ []
 · have h1:=hl.1 hlast
   have q0:(t.toList == ([]:List UInt8)) = false:=by rw [toList_d]; exact beq_eq_false_iff_ne.2 h1.1
   have c2:=suf_ret t hm false (by
     unfold Lib.hasSuffix
     cases h9:List.isSuffixOf [10] t.data.toList
     · rfl
     · exact absurd (List.isSuffixOf_iff_suffix.1 h9) h1.2)
   have HV:Hid (R = ([],5,(n:Int) + 1)):=lH (by
     rw [HR.out]
     unfold linV
     rw [if_pos hlast,HN.out]
     rfl)
   have HSL:∀ W,Hid (StepsS W (.slice none 0 0) []):=fun W => lH (SlR.nil _ _)
   clear hn hl hlast h1 hR hT hm
   go_enter Tryz.func15,Tryz.ntmps15
   go_wp2_with fail
   obtain ⟨w1,hw1⟩:∃ W,W = w.alloc (.cells #[.int .i64 0,.int .i64 0] 39):=⟨_,rfl⟩
   rw [<- hw1] at HI hg ⊢
   clear hw1
   refine (c1).calls ?_
   go_wp2_with fail
   refine (c2 _).mono ?_
   rintro _ w3 ⟨rfl,rfl⟩
   go_wp2_with (refine RwL.at_store (ty:=39) rfl ?_; refine wpList_store_row rfl 39 _ _ rfl w.heap.size #[.int .i64 5,.int .i64 ((n:Int) + 1)] (by rfl) (by rfl) _ _ hg.out (f2_info _ _) rfl (f2_one _ _) ?_)
   exact bodyPost_ret (v:=.tuple #[(.slice none 0 0),.agg #[.int .i64 5,.int .i64 ((n:Int) + 1)]]) (results_t_cell Tryz.results15 _ _ _ _ _ _ _ _ rfl rfl (setRow_heap _ _ _ _ _ _ hg.out) Tryz.underlying39 rfl (f2_info _ _)) rfl ⟨_,by rw [HV.out],by rw [HV.out]; exact (HSL _).out,below_setRow HI.out.since (Nat.le_refl _) _⟩
 have hlast0:(Sp.pcs 10 t.data.toList).getLastD [] = []:=Classical.byContradiction fun h9 => hlast h9
 by_cases h200:200 < n
 · have HV:Hid (R = ([],17,201)):=lH (by
     rw [HR.out]
     unfold linV
     rw [if_neg hlast,HN.out,if_pos (by omega)])
   have HSL:∀ W,Hid (StepsS W (.slice none 0 0) []):=fun W => lH (SlR.nil _ _)
   have q0:(t.toList == ([]:List UInt8)) = false:=by
     rw [toList_d]
     refine beq_eq_false_iff_ne.2 (fun h9 => ?_)
     rw [h9] at hn
     have:(1:Nat) = n + 1:=hn
     omega
   have c2:=suf_ret t hm true (by
     unfold Lib.hasSuffix
     cases h9:List.isSuffixOf [10] t.data.toList
     · exfalso
       refine hlast (hl.2 ⟨fun h8 => ?_,fun h8 => by rw [List.isSuffixOf_iff_suffix.2 h8] at h9; cases h9⟩)
       rw [toList_d,h8] at q0
       exact absurd q0 (by decide)
     · rfl)
   clear hn hl hlast hlast0 hR hT hm
   go_enter Tryz.func15,Tryz.ntmps15
   go_wp2_with fail
   obtain ⟨w1,hw1⟩:∃ W,W = w.alloc (.cells #[.int .i64 0,.int .i64 0] 39):=⟨_,rfl⟩
   rw [<- hw1] at HI hg ⊢
   clear hw1
   refine (c1).calls ?_
   go_wp2_with fail
   refine (c2 _).mono ?_
   rintro _ w3 ⟨rfl,rfl⟩
   go_wp2_with (refine RwL.at_store (ty:=39) rfl ?_; refine wpList_store_row rfl 39 _ _ rfl w.heap.size #[.int .i64 17,.int .i64 201] (by rfl) (by rfl) _ _ hg.out (f2_info _ _) rfl (f2_one _ _) ?_)
   exact bodyPost_ret (v:=.tuple #[(.slice none 0 0),.agg #[.int .i64 17,.int .i64 201]]) (results_t_cell Tryz.results15 _ _ _ _ _ _ _ _ rfl rfl (setRow_heap _ _ _ _ _ _ hg.out) Tryz.underlying39 rfl (f2_info _ _)) rfl ⟨_,by rw [HV.out],by rw [HV.out]; exact (HSL _).out,below_setRow HI.out.since (Nat.le_refl _) _⟩
 have HST:Hid (R = stepsF Rok candP 0 (Sp.pcs 10 t.data.toList).dropLast []):=lH (by
   rw [HR.out]
   unfold linV
   rw [if_neg hlast,HN.out,if_neg (by omega)])
 by_cases ht0:t.data.toList = []
 · have q0:(t.toList == ([]:List UInt8)) = true:=by rw [toList_d,ht0]; rfl
   clear hl hlast hlast0 hR hT hm ht0 hn
   go_enter Tryz.func15,Tryz.ntmps15
   go_wp2_with fail
   obtain ⟨w1,hw1⟩:∃ W,W = w.alloc (.cells #[.int .i64 0,.int .i64 0] 39):=⟨_,rfl⟩
   rw [<- hw1] at HI hg ⊢
   clear hw1
   refine (c1).calls ?_
   go_wp2_with fail
   go_wp2_with fail
   go_loopw [0,5,28] (fun a s i wr => ∃ (j:Nat) (T:ByteArray) (acc:List St) (V:Value),j <= n /\ i = .int .i64 (j:Int) /\ a = .string T /\ s = V /\ Hid ((Sp.pcs 10 T.data.toList).length = n + 1 - j) /\ Hid (R = stepsF Rok candP j (Sp.pcs 10 T.data.toList).dropLast acc) /\ Hid (acc.length = j) /\ Hid (T.size <= t.size) /\ Hid (NI w w.heap.size V acc wr)) (fun _ _ i _ => n - (intOf i).toNat)
   case atStart => exact ⟨0,t,[],.slice none 0 0,Nat.zero_le _,rfl,rfl,rfl,HN,HST,lH rfl,lH (Nat.le_refl _),HI⟩
   case round =>
     clear HI HST hg
     obtain ⟨j,T,acc,V,hj,rfl,rfl,rfl,HPN,HST,HAL,HTZ,HI⟩:=hrel
     obtain ⟨A6,c6,hV6⟩:=RwL.own_any (ni_own HI)
     subst hV6
     by_cases hlt:j < n
     · obtain ⟨p,P,hpP⟩:∃ p P,Sp.pcs 10 T.data.toList = p :: P:=by
         cases hp:Sp.pcs 10 T.data.toList with
         | nil => exact absurd hp (Sp.pcs_ne 10 _)
         | cons p P => exact ⟨p,P,rfl⟩
       have hPl:P.length = n - j:=by
         have h9:=HPN.out
         rw [hpP,List.length_cons] at h9
         omega
       have hPn:P ≠ []:=fun h9 => by rw [h9] at hPl; simp at hPl; omega
       obtain ⟨B,c3,hB,hBz,hpz⟩:=line_cut T (by have:=HTZ.out; have:=HM.out; omega) p P hPn hpP
       have hst:R = stepsF Rok candP j (p :: P.dropLast) acc:=by
         rw [HST.out,hpP,List.dropLast_cons_of_ne_nil hPn]
       obtain ⟨q,hq⟩:∃ q,q = bs p:=⟨_,rfl⟩
       have hql:q.data.toList = p:=by rw [hq,list_bs]
       have hqz:q.size <= 1000000:=by
         have h1:q.size = p.length:=by rw [<- hql]; rfl
         have:=HTZ.out
         have:=HM.out
         omega
       have c4:=pars_k q hqz
       rw [hql] at c4
       rw [<- hq] at c3
       obtain ⟨S,hS⟩:∃ S,S = (parsV Rok candP p).1:=⟨_,rfl⟩
       obtain ⟨e,he⟩:∃ e,e = (parsV Rok candP p).2:=⟨_,rfl⟩
       rw [<- hS,<- he] at c4
       have hst2:R = if e = 0 then stepsF Rok candP (j + 1) P.dropLast (acc ++ [S]) else ([],e,(j:Int) + 1):=by
         rw [hst,he,hS]
         rfl
       have HS2:=lH hst2
       have HBL:=lH hB
       have HBZ:=lH (Nat.le_trans hBz HTZ.out)
       have HPL:=lH hPl
       have hone:=s6_one S
       unfold sc at c4 hone
       clear hst hst2 hS he hq hql hqz hpP hPl hPn hB hBz hpz HST HPN
       go_wp2_with fail
       refine c3.calls0 ?_
       intro w2 h2
       replace HI:=ni_step h2 HI
       clear h2
       go_wp2_with fail
       refine c4.calls0 (Kp.keep HT.out HI.out.since) ?_
       intro w5 h5
       replace HI:=ni_step h5 HI
       have hg5:=heap_alloc_new w5 (.cells #[.string ⟨#[]⟩,.string ⟨#[]⟩,.string ⟨#[]⟩,.int .i64 0,.string ⟨#[]⟩,.string ⟨#[]⟩] 26)
       have hd:Since w5 ((w5.alloc (.cells #[.string ⟨#[]⟩,.string ⟨#[]⟩,.string ⟨#[]⟩,.int .i64 0,.string ⟨#[]⟩,.string ⟨#[]⟩] 26)).setRow w5.heap.size #[.string S.v,.string S.n,.string S.o,.int .i64 S.f,.string S.t,.string S.b]):=below_setRow ((Since.refl w5).alloc _) (Nat.le_refl _) _
       have hg6:=setRow_heap _ _ _ #[.string S.v,.string S.n,.string S.o,.int .i64 S.f,.string S.t,.string S.b] _ _ hg5
       replace HI:=ni_step hd HI
       clear h5 hd
       have HB1:=lH (show acc.length + 1 <= maxLen by have:=HAL.out; unfold maxLen; omega)
       have HB2:=lH (show (acc.length + 1) * 88 <= 140737488355328 by have:=HAL.out; omega)
       by_cases he:e = 0
       · subst he
         have HS3:Hid (R = stepsF Rok candP (j + 1) P.dropLast (acc ++ [S])):=lH (by rw [HS2.out,if_pos rfl])
         clear HS2
         go_wp2_with (first
           | (refine RwL.at_store (ty:=26) rfl ?_; refine wpList_store_row rfl 26 _ _ rfl w5.heap.size #[.string S.v,.string S.n,.string S.o,.int .i64 S.f,.string S.t,.string S.b] (by rfl) (by rfl) _ _ hg5 (s6_info _ _ _ _ _ _) rfl hone ?_; obtain ⟨w9,hw9⟩:∃ W,W = (w5.alloc (.cells #[.string ⟨#[]⟩,.string ⟨#[]⟩,.string ⟨#[]⟩,.int .i64 0,.string ⟨#[]⟩,.string ⟨#[]⟩] 26)).setRow w5.heap.size #[.string S.v,.string S.n,.string S.o,.int .i64 S.f,.string S.t,.string S.b]:=⟨_,rfl⟩; rw [<- hw9] at HI hg6; rw [show (w5.alloc (.cells #[.string ⟨#[]⟩,.string ⟨#[]⟩,.string ⟨#[]⟩,.int .i64 0,.string ⟨#[]⟩,.string ⟨#[]⟩] 26)).setRow w5.heap.size #[.string S.v,.string S.n,.string S.o,.int .i64 S.f,.string S.t,.string S.b] = w9 from hw9.symm]; have m0:=row_cell hg6 0 _ rfl; have m1:=row_cell hg6 1 _ rfl; have m2:=row_cell hg6 2 _ rfl; have m3:=row_cell hg6 3 _ rfl; have m4:=row_cell hg6 4 _ rfl; have m5:=row_cell hg6 5 _ rfl; clear hw9 hg5 hg6)
           | (at_builtin; refine app_rows elemSt rfl _ _ (by rfl) w w9 _ rfl [_] [] _ acc.length _ (by rfl) HI.out.rows HI.out.since #[.string S.v,.string S.n,.string S.o,.int .i64 S.f,.string S.t,.string S.b] 1 1 (by rfl) rfl (sc_one S) HB1.out HB2.out ?_; intro V3 w4 HR4 HS4 HK4; have HI4:=ni_app HR4 HS4; clear HR4 HS4 HK4 HI HB1 HB2))
         go_roundw
         case rel => exact ⟨j + 1,B,acc ++ [S],V3,hlt,by go_num,rfl,rfl,lH (by rw [HBL.out,HPL.out]; omega),lH (by rw [HBL.out]; exact HS3.out),lH (by rw [List.length_append,HAL.out]; rfl),HBZ,HI4⟩
         case measure => (simp [intOf] <;> omega)
       · have HV:Hid (R = ([],e,(j:Int) + 1)):=lH (by rw [HS2.out,if_neg he])
         have q1:(e == 0) = false:=beq_eq_false_iff_ne.2 he
         have q2:(e != 0) = true:=by rw [bne,q1]; rfl
         have HSL:∀ W,Hid (StepsS W (.slice none 0 0) []):=fun W => lH (SlR.nil _ _)
         clear HS2 he HB1 HB2
         go_wp2_with (first
           | (refine RwL.at_store (ty:=26) rfl ?_; refine wpList_store_row rfl 26 _ _ rfl w5.heap.size #[.string S.v,.string S.n,.string S.o,.int .i64 S.f,.string S.t,.string S.b] (by rfl) (by rfl) _ _ hg5 (s6_info _ _ _ _ _ _) rfl hone ?_; obtain ⟨w9,hw9⟩:∃ W,W = (w5.alloc (.cells #[.string ⟨#[]⟩,.string ⟨#[]⟩,.string ⟨#[]⟩,.int .i64 0,.string ⟨#[]⟩,.string ⟨#[]⟩] 26)).setRow w5.heap.size #[.string S.v,.string S.n,.string S.o,.int .i64 S.f,.string S.t,.string S.b]:=⟨_,rfl⟩; rw [<- hw9] at HI hg6; rw [show (w5.alloc (.cells #[.string ⟨#[]⟩,.string ⟨#[]⟩,.string ⟨#[]⟩,.int .i64 0,.string ⟨#[]⟩,.string ⟨#[]⟩] 26)).setRow w5.heap.size #[.string S.v,.string S.n,.string S.o,.int .i64 S.f,.string S.t,.string S.b] = w9 from hw9.symm]; have hg:=lH (ni_res HI); clear hw9 hg5 hg6)
           | (refine RwL.at_store (ty:=39) rfl ?_; refine wpList_store_row rfl 39 _ _ rfl w.heap.size #[.int .i64 e,.int .i64 ((j:Int) + 1)] (by rfl) (by rfl) _ _ hg.out (f2_info _ _) rfl (f2_one _ _) ?_))
         exact bodyPost_ret (v:=.tuple #[(.slice none 0 0),.agg #[.int .i64 e,.int .i64 ((j:Int) + 1)]]) (results_t_cell Tryz.results15 _ _ _ _ _ _ _ _ rfl rfl (setRow_heap _ _ _ _ _ _ hg.out) Tryz.underlying39 rfl (f2_info _ _)) rfl ⟨_,by rw [HV.out],by rw [HV.out]; exact (HSL _).out,below_setRow HI.out.since (Nat.le_refl _) _⟩
     · obtain rfl:j = n:=by omega
       have HV:Hid (R = (acc,0,0)):=lH (by
         have h9:=HPN.out
         match hp:Sp.pcs 10 T.data.toList,h9 with
         | [],_ => exact absurd hp (Sp.pcs_ne 10 _)
         | [p],_ => rw [HST.out,hp]; rfl
         | _ :: _ :: P,h9 => exact absurd h9 (by rw [List.length_cons,List.length_cons]; omega))
       have hne:(Value.slice A6 acc.length c6).ownBlock ≠ some w.heap.size:=fun h9 => (List.pairwise_cons.1 HI.out.rows.apart).1 ⟨26,6,.slice A6 acc.length c6,acc.length,acc.flatMap sc⟩ (by simp) w.heap.size rfl h9
       have hsl:StepsS wr (.slice A6 acc.length c6) acc:=SlR.own (ni_own HI)
       have HSL:∀ C,Hid (StepsS (wr.setRow w.heap.size C) (.slice A6 acc.length c6) acc):=fun C => lH (Rcd.slr_row hsl hne C)
       have hg:=lH (ni_res HI)
       clear hne hsl HST
       go_wp2_with (refine RwL.at_store (ty:=39) rfl ?_; refine wpList_store_row rfl 39 _ _ rfl w.heap.size #[.int .i64 0,.int .i64 0] (by rfl) (by rfl) _ _ hg.out (f2_info _ _) rfl (f2_one _ _) ?_)
       exact bodyPost_ret (v:=.tuple #[(.slice A6 acc.length c6),.agg #[.int .i64 0,.int .i64 0]]) (results_t_cell Tryz.results15 _ _ _ _ _ _ _ _ rfl rfl (setRow_heap _ _ _ _ _ _ hg.out) Tryz.underlying39 rfl (f2_info _ _)) rfl ⟨_,by rw [HV.out],by rw [HV.out]; exact (HSL _).out,below_setRow HI.out.since (Nat.le_refl _) _⟩
 · have q0:(t.toList == ([]:List UInt8)) = false:=by rw [toList_d]; exact beq_eq_false_iff_ne.2 ht0
   have c2:=suf_ret t hm true (by
     unfold Lib.hasSuffix
     cases h9:List.isSuffixOf [10] t.data.toList
     · exfalso
       exact hlast (hl.2 ⟨ht0,fun h8 => by rw [List.isSuffixOf_iff_suffix.2 h8] at h9; cases h9⟩)
     · rfl)
   clear hl hlast hlast0 hR hT hm ht0 hn
   go_enter Tryz.func15,Tryz.ntmps15
   go_wp2_with fail
   obtain ⟨w1,hw1⟩:∃ W,W = w.alloc (.cells #[.int .i64 0,.int .i64 0] 39):=⟨_,rfl⟩
   rw [<- hw1] at HI hg ⊢
   clear hw1
   refine (c1).calls ?_
   go_wp2_with fail
   refine (c2).calls ?_
   go_wp2_with fail
   go_wp2_with fail
   go_loopw [0,5,28] (fun a s i wr => ∃ (j:Nat) (T:ByteArray) (acc:List St) (V:Value),j <= n /\ i = .int .i64 (j:Int) /\ a = .string T /\ s = V /\ Hid ((Sp.pcs 10 T.data.toList).length = n + 1 - j) /\ Hid (R = stepsF Rok candP j (Sp.pcs 10 T.data.toList).dropLast acc) /\ Hid (acc.length = j) /\ Hid (T.size <= t.size) /\ Hid (NI w w.heap.size V acc wr)) (fun _ _ i _ => n - (intOf i).toNat)
   case atStart => exact ⟨0,t,[],.slice none 0 0,Nat.zero_le _,rfl,rfl,rfl,HN,HST,lH rfl,lH (Nat.le_refl _),HI⟩
   case round =>
     clear HI HST hg
     obtain ⟨j,T,acc,V,hj,rfl,rfl,rfl,HPN,HST,HAL,HTZ,HI⟩:=hrel
     obtain ⟨A6,c6,hV6⟩:=RwL.own_any (ni_own HI)
     subst hV6
     by_cases hlt:j < n
     · obtain ⟨p,P,hpP⟩:∃ p P,Sp.pcs 10 T.data.toList = p :: P:=by
         cases hp:Sp.pcs 10 T.data.toList with
         | nil => exact absurd hp (Sp.pcs_ne 10 _)
         | cons p P => exact ⟨p,P,rfl⟩
       have hPl:P.length = n - j:=by
         have h9:=HPN.out
         rw [hpP,List.length_cons] at h9
         omega
       have hPn:P ≠ []:=fun h9 => by rw [h9] at hPl; simp at hPl; omega
       obtain ⟨B,c3,hB,hBz,hpz⟩:=line_cut T (by have:=HTZ.out; have:=HM.out; omega) p P hPn hpP
       have hst:R = stepsF Rok candP j (p :: P.dropLast) acc:=by
         rw [HST.out,hpP,List.dropLast_cons_of_ne_nil hPn]
       obtain ⟨q,hq⟩:∃ q,q = bs p:=⟨_,rfl⟩
       have hql:q.data.toList = p:=by rw [hq,list_bs]
       have hqz:q.size <= 1000000:=by
         have h1:q.size = p.length:=by rw [<- hql]; rfl
         have:=HTZ.out
         have:=HM.out
         omega
       have c4:=pars_k q hqz
       rw [hql] at c4
       rw [<- hq] at c3
       obtain ⟨S,hS⟩:∃ S,S = (parsV Rok candP p).1:=⟨_,rfl⟩
       obtain ⟨e,he⟩:∃ e,e = (parsV Rok candP p).2:=⟨_,rfl⟩
       rw [<- hS,<- he] at c4
       have hst2:R = if e = 0 then stepsF Rok candP (j + 1) P.dropLast (acc ++ [S]) else ([],e,(j:Int) + 1):=by
         rw [hst,he,hS]
         rfl
       have HS2:=lH hst2
       have HBL:=lH hB
       have HBZ:=lH (Nat.le_trans hBz HTZ.out)
       have HPL:=lH hPl
       have hone:=s6_one S
       unfold sc at c4 hone
       clear hst hst2 hS he hq hql hqz hpP hPl hPn hB hBz hpz HST HPN
       go_wp2_with fail
       refine c3.calls0 ?_
       intro w2 h2
       replace HI:=ni_step h2 HI
       clear h2
       go_wp2_with fail
       refine c4.calls0 (Kp.keep HT.out HI.out.since) ?_
       intro w5 h5
       replace HI:=ni_step h5 HI
       have hg5:=heap_alloc_new w5 (.cells #[.string ⟨#[]⟩,.string ⟨#[]⟩,.string ⟨#[]⟩,.int .i64 0,.string ⟨#[]⟩,.string ⟨#[]⟩] 26)
       have hd:Since w5 ((w5.alloc (.cells #[.string ⟨#[]⟩,.string ⟨#[]⟩,.string ⟨#[]⟩,.int .i64 0,.string ⟨#[]⟩,.string ⟨#[]⟩] 26)).setRow w5.heap.size #[.string S.v,.string S.n,.string S.o,.int .i64 S.f,.string S.t,.string S.b]):=below_setRow ((Since.refl w5).alloc _) (Nat.le_refl _) _
       have hg6:=setRow_heap _ _ _ #[.string S.v,.string S.n,.string S.o,.int .i64 S.f,.string S.t,.string S.b] _ _ hg5
       replace HI:=ni_step hd HI
       clear h5 hd
       have HB1:=lH (show acc.length + 1 <= maxLen by have:=HAL.out; unfold maxLen; omega)
       have HB2:=lH (show (acc.length + 1) * 88 <= 140737488355328 by have:=HAL.out; omega)
       by_cases he:e = 0
       · subst he
         have HS3:Hid (R = stepsF Rok candP (j + 1) P.dropLast (acc ++ [S])):=lH (by rw [HS2.out,if_pos rfl])
         clear HS2
         go_wp2_with (first
           | (refine RwL.at_store (ty:=26) rfl ?_; refine wpList_store_row rfl 26 _ _ rfl w5.heap.size #[.string S.v,.string S.n,.string S.o,.int .i64 S.f,.string S.t,.string S.b] (by rfl) (by rfl) _ _ hg5 (s6_info _ _ _ _ _ _) rfl hone ?_; obtain ⟨w9,hw9⟩:∃ W,W = (w5.alloc (.cells #[.string ⟨#[]⟩,.string ⟨#[]⟩,.string ⟨#[]⟩,.int .i64 0,.string ⟨#[]⟩,.string ⟨#[]⟩] 26)).setRow w5.heap.size #[.string S.v,.string S.n,.string S.o,.int .i64 S.f,.string S.t,.string S.b]:=⟨_,rfl⟩; rw [<- hw9] at HI hg6; rw [show (w5.alloc (.cells #[.string ⟨#[]⟩,.string ⟨#[]⟩,.string ⟨#[]⟩,.int .i64 0,.string ⟨#[]⟩,.string ⟨#[]⟩] 26)).setRow w5.heap.size #[.string S.v,.string S.n,.string S.o,.int .i64 S.f,.string S.t,.string S.b] = w9 from hw9.symm]; have m0:=row_cell hg6 0 _ rfl; have m1:=row_cell hg6 1 _ rfl; have m2:=row_cell hg6 2 _ rfl; have m3:=row_cell hg6 3 _ rfl; have m4:=row_cell hg6 4 _ rfl; have m5:=row_cell hg6 5 _ rfl; clear hw9 hg5 hg6)
           | (at_builtin; refine app_rows elemSt rfl _ _ (by rfl) w w9 _ rfl [_] [] _ acc.length _ (by rfl) HI.out.rows HI.out.since #[.string S.v,.string S.n,.string S.o,.int .i64 S.f,.string S.t,.string S.b] 1 1 (by rfl) rfl (sc_one S) HB1.out HB2.out ?_; intro V3 w4 HR4 HS4 HK4; have HI4:=ni_app HR4 HS4; clear HR4 HS4 HK4 HI HB1 HB2))
         go_roundw
         case rel => exact ⟨j + 1,B,acc ++ [S],V3,hlt,by go_num,rfl,rfl,lH (by rw [HBL.out,HPL.out]; omega),lH (by rw [HBL.out]; exact HS3.out),lH (by rw [List.length_append,HAL.out]; rfl),HBZ,HI4⟩
         case measure => (simp [intOf] <;> omega)
       · have HV:Hid (R = ([],e,(j:Int) + 1)):=lH (by rw [HS2.out,if_neg he])
         have q1:(e == 0) = false:=beq_eq_false_iff_ne.2 he
         have q2:(e != 0) = true:=by rw [bne,q1]; rfl
         have HSL:∀ W,Hid (StepsS W (.slice none 0 0) []):=fun W => lH (SlR.nil _ _)
         clear HS2 he HB1 HB2
         go_wp2_with (first
           | (refine RwL.at_store (ty:=26) rfl ?_; refine wpList_store_row rfl 26 _ _ rfl w5.heap.size #[.string S.v,.string S.n,.string S.o,.int .i64 S.f,.string S.t,.string S.b] (by rfl) (by rfl) _ _ hg5 (s6_info _ _ _ _ _ _) rfl hone ?_; obtain ⟨w9,hw9⟩:∃ W,W = (w5.alloc (.cells #[.string ⟨#[]⟩,.string ⟨#[]⟩,.string ⟨#[]⟩,.int .i64 0,.string ⟨#[]⟩,.string ⟨#[]⟩] 26)).setRow w5.heap.size #[.string S.v,.string S.n,.string S.o,.int .i64 S.f,.string S.t,.string S.b]:=⟨_,rfl⟩; rw [<- hw9] at HI hg6; rw [show (w5.alloc (.cells #[.string ⟨#[]⟩,.string ⟨#[]⟩,.string ⟨#[]⟩,.int .i64 0,.string ⟨#[]⟩,.string ⟨#[]⟩] 26)).setRow w5.heap.size #[.string S.v,.string S.n,.string S.o,.int .i64 S.f,.string S.t,.string S.b] = w9 from hw9.symm]; have hg:=lH (ni_res HI); clear hw9 hg5 hg6)
           | (refine RwL.at_store (ty:=39) rfl ?_; refine wpList_store_row rfl 39 _ _ rfl w.heap.size #[.int .i64 e,.int .i64 ((j:Int) + 1)] (by rfl) (by rfl) _ _ hg.out (f2_info _ _) rfl (f2_one _ _) ?_))
         exact bodyPost_ret (v:=.tuple #[(.slice none 0 0),.agg #[.int .i64 e,.int .i64 ((j:Int) + 1)]]) (results_t_cell Tryz.results15 _ _ _ _ _ _ _ _ rfl rfl (setRow_heap _ _ _ _ _ _ hg.out) Tryz.underlying39 rfl (f2_info _ _)) rfl ⟨_,by rw [HV.out],by rw [HV.out]; exact (HSL _).out,below_setRow HI.out.since (Nat.le_refl _) _⟩
     · obtain rfl:j = n:=by omega
       have HV:Hid (R = (acc,0,0)):=lH (by
         have h9:=HPN.out
         match hp:Sp.pcs 10 T.data.toList,h9 with
         | [],_ => exact absurd hp (Sp.pcs_ne 10 _)
         | [p],_ => rw [HST.out,hp]; rfl
         | _ :: _ :: P,h9 => exact absurd h9 (by rw [List.length_cons,List.length_cons]; omega))
       have hne:(Value.slice A6 acc.length c6).ownBlock ≠ some w.heap.size:=fun h9 => (List.pairwise_cons.1 HI.out.rows.apart).1 ⟨26,6,.slice A6 acc.length c6,acc.length,acc.flatMap sc⟩ (by simp) w.heap.size rfl h9
       have hsl:StepsS wr (.slice A6 acc.length c6) acc:=SlR.own (ni_own HI)
       have HSL:∀ C,Hid (StepsS (wr.setRow w.heap.size C) (.slice A6 acc.length c6) acc):=fun C => lH (Rcd.slr_row hsl hne C)
       have hg:=lH (ni_res HI)
       clear hne hsl HST
       go_wp2_with (refine RwL.at_store (ty:=39) rfl ?_; refine wpList_store_row rfl 39 _ _ rfl w.heap.size #[.int .i64 0,.int .i64 0] (by rfl) (by rfl) _ _ hg.out (f2_info _ _) rfl (f2_one _ _) ?_)
       exact bodyPost_ret (v:=.tuple #[(.slice A6 acc.length c6),.agg #[.int .i64 0,.int .i64 0]]) (results_t_cell Tryz.results15 _ _ _ _ _ _ _ _ rfl rfl (setRow_heap _ _ _ _ _ _ hg.out) Tryz.underlying39 rfl (f2_info _ _)) rfl ⟨_,by rw [HV.out],by rw [HV.out]; exact (HSL _).out,below_setRow HI.out.since (Nat.le_refl _) _⟩
end Scr
namespace Scr
open Rw RwL Kind
def mvS:St:=⟨⟨#[109,111,118,101]⟩,⟨#[97]⟩,⟨#[98]⟩,0,E0,E0⟩
def liS:St:=⟨⟨#[108,105,115,116]⟩,E0,E0,0,E0,E0⟩
def geS:St:=⟨⟨#[103,101,116]⟩,⟨#[97]⟩,E0,0,E0,E0⟩
def mvB:ByteArray:=⟨#[109,111,118,101,32,97,32,98]⟩
def lgB:ByteArray:=⟨#[108,105,115,116,10,103,101,116,32,97,10]⟩
theorem tx_mv:textV Rok mvS = mvB.data.toList:=by decide +kernel
theorem tx_li:textV Rok liS = [108,105,115,116]:=by decide +kernel
theorem tx_ge:textV Rok geS = [103,101,116,32,97]:=by decide +kernel
theorem ps_mv:parsV Rok candP mvB.data.toList = (mvS,0):=by
 have h:=pars_text Rok mvS (by rw [tx_mv]; decide)
 rwa [tx_mv] at h
theorem ps_li:parsV Rok candP [108,105,115,116] = (liS,0):=by
 have h:=pars_text Rok liS (by rw [tx_li]; decide)
 rwa [tx_li] at h
theorem ps_ge:parsV Rok candP [103,101,116,32,97] = (geS,0):=by
 have h:=pars_text Rok geS (by rw [tx_ge]; decide)
 rwa [tx_ge] at h
theorem ln_lg:linV Rok candP lgB.data.toList = ([liS,geS],0,0):=by
 have e:Sp.pcs 10 lgB.data.toList = [[108,105,115,116],[103,101,116,32,97],[]]:=by decide +kernel
 unfold linV
 rw [e,if_neg (by decide),if_neg (by decide)]
 show stepsF Rok candP 0 [[108,105,115,116],[103,101,116,32,97]] [] = _
 rw [stepsF,ps_li,if_pos rfl,stepsF,ps_ge,if_pos rfl,stepsF]
 rfl
def BX (b:Nat) (C:Array Value) (t:TypeId) (W:World):Prop:=W.heap[b]? = some (.cells C t (0,0))
theorem bx_step {b:Nat} {C:Array Value} {t:TypeId} {W W':World} (hs:Since W W') (h:Hid (BX b C t W)):Hid (BX b C t W'):=lH ((Below.block hs b (Array.getElem?_eq_some_iff.1 h.out).1).trans h.out)
set_option maxHeartbeats 8000000 in
theorem awake:KMk Tab2 6 #[] (.bool true):=by
 intro w hT
 have HT:=lH hT
 have HS:=lH (Since.refl w)
 have c1:=pars_k mvB (by decide)
 rw [ps_mv] at c1
 have c2:=lines_k lgB (by decide)
 rw [ln_lg] at c2
 have c3:=text_k mvS (by decide) (by decide) (by decide) (by decide) (by decide)
 rw [tx_mv] at c3
 have c4:=word_mk 2
 rw [show bs (wordF 2) = ⟨#[107,101,121,101,100]⟩ from rfl] at c4
 have c5:=format_mk ⟨#[119,114,97,112,112,101,100]⟩ (by decide)
 rw [show fmtW (⟨#[119,114,97,112,112,101,100]⟩:ByteArray).data.toList = 1 from by decide +kernel] at c5
 rw [show bs mvB.data.toList = mvB from bs_l mvB] at c3
 unfold sc mvS mvB E0 at c1
 unfold mvS mvB E0 at c3
 unfold lgB at c2
 have q1:((⟨#[109,111,118,101]⟩:ByteArray).toList == (⟨#[109,111,118,101]⟩:ByteArray).toList) = true:=beq_self_eq_true _
 clear hT
 go_enter Tryz.func6,Tryz.ntmps6
 go_wp2_with fail
 refine c1.calls0 HT.out ?_
 intro w1 h1
 replace HS:=lH (HS.out.step h1)
 clear h1
 go_wp2_with fail
 obtain ⟨w2,hw2⟩:∃ W,W = w1.alloc (.cells #[.string ⟨#[109,111,118,101]⟩,.string ⟨#[97]⟩,.string ⟨#[98]⟩,.int .i64 0,.string ⟨#[]⟩,.string ⟨#[]⟩] 26):=⟨_,rfl⟩
 obtain ⟨b1,hb1⟩:∃ b,b = w1.heap.size:=⟨_,rfl⟩
 have HB:Hid (BX b1 #[.string ⟨#[109,111,118,101]⟩,.string ⟨#[97]⟩,.string ⟨#[98]⟩,.int .i64 0,.string ⟨#[]⟩,.string ⟨#[]⟩] 26 w2):=lH (by rw [hw2,hb1]; exact heap_alloc_new w1 _)
 replace HS:Hid (Since w w2):=lH (by rw [hw2]; exact HS.out.alloc _)
 rw [<- hw2,<- hb1]
 clear hw2 hb1
 refine (c2 _ (Kp.keep HT.out HS.out)).mono ?_
 rintro _ w3 ⟨V,rfl,hst,h3⟩
 obtain ⟨A3,q3,rfl,-,-⟩:=hst.slice
 obtain ⟨g3,hg3⟩:∃ g,g = w3.heap.size:=⟨_,rfl⟩
 have hal:Since w3 (w3.alloc (.cells #[.int .i64 0,.int .i64 0] 39)):=(Since.refl w3).alloc _
 replace HB:=bx_step hal (bx_step h3 HB)
 have HF:Hid (BX g3 #[.int .i64 0,.int .i64 0] 39 (w3.alloc (.cells #[.int .i64 0,.int .i64 0] 39))):=lH (by rw [hg3]; exact heap_alloc_new w3 _)
 replace HS:=lH ((HS.out.step h3).step hal)
 have m0:=row_cell HB.out 0 _ rfl
 have m1:=row_cell HB.out 1 _ rfl
 have m2:=row_cell HB.out 2 _ rfl
 have m3:=row_cell HB.out 3 _ rfl
 have m4:=row_cell HB.out 4 _ rfl
 have m5:=row_cell HB.out 5 _ rfl
 have q2:((⟨#[97]⟩:ByteArray).toList == (⟨#[97]⟩:ByteArray).toList) = true:=beq_self_eq_true _
 have q3:((⟨#[98]⟩:ByteArray).toList == (⟨#[98]⟩:ByteArray).toList) = true:=beq_self_eq_true _
 clear hst h3 hal
 go_wp2_with fail
 rw [<- hg3]
 refine c3.calls0 (Kp.keep HT.out HS.out) ?_
 intro w5 h5
 replace HS:=lH (HS.out.step h5)
 replace HF:=bx_step h5 HF
 have n0:=row_cell HF.out 0 _ rfl
 clear h5 HB hg3 m0 m1 m2 m3 m4 m5
 go_wp2_with fail
 refine c4.calls0 ?_
 intro w6 h6
 replace HS:=lH (HS.out.step h6)
 clear h6
 go_wp2_with fail
 refine c5.calls0 ?_
 intro w7 h7
 replace HS:=lH (HS.out.step h7)
 clear h7
 go_wp2_with fail
 go_ret
 exact ⟨rfl,HS.out⟩
end Scr
namespace Scr
open Rw RwL Kind
end Scr
namespace Scr
open Rw RwL Kind
open Rcd (hx)
theorem rword_ret (f:Int):Ret 12 #[.int .i64 f] (.string (bs (wordF f))):=by
 intro w
 by_cases h1:f = 1
 · subst h1
   go_enter Tryz.func12,Tryz.ntmps12
   go_wp2_with fail
   go_ret
   exact ⟨rfl,rfl⟩
 by_cases h2:f = 2
 · subst h2
   go_enter Tryz.func12,Tryz.ntmps12
   go_wp2_with fail
   go_ret
   exact ⟨rfl,rfl⟩
 have q1:(f == 1) = false:=beq_eq_false_iff_ne.2 h1
 have q2:(f == 2) = false:=beq_eq_false_iff_ne.2 h2
 have HV:Hid (wordF f = []):=lH (by unfold wordF; rw [if_neg h1,if_neg h2])
 clear h1 h2
 go_enter Tryz.func12,Tryz.ntmps12
 go_wp2_with fail
 go_ret
 rw [HV.out]
 exact ⟨rfl,rfl⟩
theorem rformat_ret (s:ByteArray):Ret 14 #[.string s] (.int .i64 (fmtW s.data.toList)):=by
 intro w
 by_cases h1:s.data.toList = wraL
 · have q1:(s.toList == ([119,114,97,112,112,101,100]:List UInt8)) = true:=by rw [toList_d,h1]; rfl
   have HV:Hid (fmtW s.data.toList = 1):=lH (by unfold fmtW; rw [if_pos h1])
   clear h1
   go_enter Tryz.func14,Tryz.ntmps14
   go_wp2_with fail
   go_ret
   rw [HV.out]
   exact ⟨rfl,rfl⟩
 have q1:(s.toList == ([119,114,97,112,112,101,100]:List UInt8)) = false:=by rw [toList_d]; exact beq_eq_false_iff_ne.2 h1
 by_cases h2:s.data.toList = keyL
 · have q2:(s.toList == ([107,101,121,101,100]:List UInt8)) = true:=by rw [toList_d,h2]; rfl
   have HV:Hid (fmtW s.data.toList = 2):=lH (by unfold fmtW; rw [if_neg h1,if_pos h2])
   clear h1 h2
   go_enter Tryz.func14,Tryz.ntmps14
   go_wp2_with fail
   go_ret
   rw [HV.out]
   exact ⟨rfl,rfl⟩
 have q2:(s.toList == ([107,101,121,101,100]:List UInt8)) = false:=by rw [toList_d]; exact beq_eq_false_iff_ne.2 h2
 have HV:Hid (fmtW s.data.toList = 0):=lH (by unfold fmtW; rw [if_neg h1,if_neg h2])
 clear h1 h2
 go_enter Tryz.func14,Tryz.ntmps14
 go_wp2_with fail
 go_ret
 rw [HV.out]
 exact ⟨rfl,rfl⟩
theorem rhex_mk (s:ByteArray) (hm:s.size <= 1000000):Mak 30 #[.string s] (.string (bs (hexW s))):=by
 intro w
 have HS:=lH (Since.refl w)
 by_cases h:s.data.toList = []
 · have q1:(s.toList == ([]:List UInt8)) = true:=by rw [toList_d,h]; rfl
   have HV:Hid (hexW s = [45]):=lH (by unfold hexW; rw [if_pos h])
   clear h
   go_enter Tryz.func30,Tryz.ntmps30
   go_wp2_with fail
   go_ret
   rw [HV.out]
   exact ⟨rfl,HS.out⟩
 · have q1:(s.toList == ([]:List UInt8)) = false:=by rw [toList_d]; exact beq_eq_false_iff_ne.2 h
   have HV:Hid (hexW s = hx s):=lH (by unfold hexW; rw [if_neg h])
   have c1:Mak 48 #[.string s] (.string (bs (hx s))):=fun W => RefDig.hex_any s W (by omega) _ rfl
   obtain ⟨Y,hY⟩:∃ Y,Y = bs (hx s):=⟨_,rfl⟩
   rw [<- hY] at c1
   have HY:=lH hY
   clear h hY
   go_enter Tryz.func30,Tryz.ntmps30
   go_wp2_with fail
   refine c1.calls0 ?_
   intro w1 h1
   replace HS:=lH (HS.out.step h1)
   clear h1
   go_wp2_with fail
   go_ret
   rw [HV.out,HY.out]
   exact ⟨rfl,HS.out⟩
theorem nm_short {l:List UInt8} (h:l.length < 1):nameO l = false:=by
 unfold nameO
 rw [decide_eq_false (by omega)]
 rfl
theorem nm_long {l:List UInt8} (h:100 < l.length):nameO l = false:=by
 unfold nameO
 rw [decide_eq_false (p:=l.length <= 100) (by omega)]
 simp
set_option maxHeartbeats 4000000 in
theorem rname_ret (s:ByteArray):Ret 29 #[.string s] (.bool (nameO s.data.toList)):=by
 intro w
 obtain ⟨l,hl⟩:∃ l,l = s.data.toList:=⟨_,rfl⟩
 have HL:=lH hl
 have HLN:=lH (show l.length = s.size by rw [hl]; rfl)
 rw [<- hl]
 clear hl
 by_cases h1:s.size < 1
 · have HV:=lH (nm_short (l:=l) (by rw [HLN.out]; exact h1))
   go_enter Tryz.func29,Tryz.ntmps29
   go_wp2_with fail
   go_ret
   rw [HV.out]
   exact ⟨rfl,rfl⟩
 have t1:decide ((s.size:Int) < 1) = false:=decide_eq_false (by omega)
 by_cases h2:100 < s.size
 · have t2:decide ((100:Int) < (s.size:Int)) = true:=decide_eq_true (by omega)
   have HV:=lH (nm_long (l:=l) (by rw [HLN.out]; exact h2))
   go_enter Tryz.func29,Tryz.ntmps29
   go_wp2_with fail
   go_ret
   rw [HV.out]
   exact ⟨rfl,rfl⟩
 have t2:decide ((100:Int) < (s.size:Int)) = false:=decide_eq_false (by omega)
 go_enter Tryz.func29,Tryz.ntmps29
 go_wp2_with fail
 go_loop [3] (fun i => ∃ k:Nat,k <= s.size /\ i = .int .i64 (k:Int) /\ Hid ((l.take k).all okN = true)) (fun i => s.size - (intOf i).toNat)
 case atStart => exact ⟨0,Nat.zero_le _,rfl,lH rfl⟩
 case round =>
   obtain ⟨k,hk,rfl,HALL⟩:=hrel
   by_cases hlt:k < s.size
   · have j1:(0:Int) <= (k:Int):=by omega
     have j2:(k:Int) < (s.size:Int):=by omega
     obtain ⟨c,hc⟩:∃ c,c = s[k]:=⟨_,rfl⟩
     have hcc:c.toNat = s[k].toNat:=by rw [hc]
     have HTK:Hid (l.take (k + 1) = l.take k ++ [c]):=lH (by
       rw [HL.out,List.take_succ_eq_append_getElem (by exact hlt),hc]
       rfl)
     have HMEM:Hid (c ∈ l):=lH (by rw [HL.out,hc]; exact List.getElem_mem (by exact hlt))
     rcases (show s[k].toNat < 33 ∨ (33 <= s[k].toNat /\ s[k].toNat <= 126) ∨ (33 <= s[k].toNat /\ 126 < s[k].toNat) by omega) with h | ⟨h,g⟩ | ⟨h,g⟩
     ·
       have HV:Hid (nameO l = false):=lH (nm_bad HMEM.out (by
         cases ho:okN c
         · rfl
         · have:=(okN_is c).1 ho
           omega))
       clear hc HALL HTK HMEM
       go_wp2_with fail
       go_ret
       rw [HV.out]
       exact ⟨rfl,rfl⟩
     · have HA2:Hid ((l.take (k + 1)).all okN = true):=lH (by
         rw [HTK.out,List.all_append,HALL.out]
         simp only [List.all_cons,List.all_nil,Bool.and_true,Bool.true_and]
         exact (okN_is c).2 (by omega))
       clear hc HALL HTK HMEM
       go_wp2_with fail
       go_round
       case rel => exact ⟨k + 1,by omega,by go_num,HA2⟩
       case measure => (simp [intOf] <;> omega)
     · have t3:decide ((s[k].toNat:Int) < 33) = false:=decide_eq_false (by omega)
       have t4:decide ((126:Int) < (s[k].toNat:Int)) = true:=decide_eq_true (by omega)
       have HV:Hid (nameO l = false):=lH (nm_bad HMEM.out (by
         cases ho:okN c
         · rfl
         · have:=(okN_is c).1 ho
           omega))
       clear hc HALL HTK HMEM
       go_wp2_with fail
       go_ret
       rw [HV.out]
       exact ⟨rfl,rfl⟩
   · obtain rfl:k = s.size:=by omega
     have HV:Hid (nameO l = true):=lH (by
       have h9:=HALL.out
       rw [List.take_of_length_le (by rw [HLN.out]; exact Nat.le_refl _)] at h9
       unfold nameO
       rw [h9,HLN.out,decide_eq_true (by omega),decide_eq_true (by omega)]
       rfl)
     go_wp2_with fail
     go_ret
     rw [HV.out]
     exact ⟨rfl,rfl⟩
end Scr
namespace Scr
open Rw RwL Kind
structure RI (w:World) (g gr:Nat) (s U:St) (W:World):Prop where
 rows:Rw.Rows W w.heap.size ([] ++ RwL.lone 23 gr (sc U) :: RwL.lone 23 g (sc s) :: [])
 since:Since w W
section
variable {w W W':World} {g gr:Nat} {s U:St}
theorem ri_step (hb:Since W W') (h:Hid (RI w g gr s U W)):Hid (RI w g gr s U W'):=lH ⟨h.out.rows.since hb,h.out.since.step hb⟩
theorem ri_ou (h:Hid (RI w g gr s U W)):(RwL.lone 23 gr (sc U)).own W w.heap.size:=h.out.rows.own _ (by simp)
theorem ri_os (h:Hid (RI w g gr s U W)):(RwL.lone 23 g (sc s)).own W w.heap.size:=h.out.rows.own _ (by simp)
theorem ri_cs (h:Hid (RI w g gr s U W)) (i:Nat) (x:Value) (hx:(sc s)[i]? = some x):W.cell? ⟨g,i,none⟩ = some x:=(RwL.lone_cell (ri_os h) i x hx).1
theorem ri_cu (h:Hid (RI w g gr s U W)) (i:Nat) (x:Value) (hx:(sc U)[i]? = some x):W.cell? ⟨gr,i,none⟩ = some x /\ W.frozen? ⟨gr,i,none⟩ = false:=RwL.lone_cell (ri_ou h) i x hx
theorem ri_drew (h:Hid (RI w g gr s U W)):Hid (RI w g gr s U W.drew):=by
 have hd:Below W.heap.size W W.drew:=⟨rfl,rfl,rfl,Nat.le_refl _,fun _ _ => rfl⟩
 exact ri_step hd h
theorem ri_set (h:Hid (RI w g gr s U W)) (i:Nat) (hi:i < 6) (x:Value) (U':St) (hU:sc U' = (sc U).set i x):Hid (RI w g gr s U' (W.setCell ⟨gr,i,none⟩ x)):=by
 refine lH ⟨?_,Below.setCell (p:=⟨gr,i,none⟩) h.out.since (lone_base (ri_ou h)) x⟩
 have h1:=Rw.Rows.set (A:=[]) (B:=[RwL.lone 23 g (sc s)]) (xs:=sc U) h.out.rows i (by show i < 1 * (sc U).length; show i < 1 * 6; omega) x
 rw [<- hU] at h1
 exact h1
end
def C6 (g:Nat) (s:St) (W:World):Prop:=W.cell? ⟨g,0,none⟩ = some (.string s.v) /\ W.cell? ⟨g,1,none⟩ = some (.string s.n) /\ W.cell? ⟨g,2,none⟩ = some (.string s.o) /\ W.cell? ⟨g,3,none⟩ = some (.int .i64 s.f) /\ W.cell? ⟨g,4,none⟩ = some (.string s.t) /\ W.cell? ⟨g,5,none⟩ = some (.string s.b)
theorem c6_of {base g:Nat} {s:St} {W:World} (h:(RwL.lone 23 g (sc s)).own W base):C6 g s W:=⟨(RwL.lone_cell h 0 _ rfl).1,(RwL.lone_cell h 1 _ rfl).1,(RwL.lone_cell h 2 _ rfl).1,(RwL.lone_cell h 3 _ rfl).1,(RwL.lone_cell h 4 _ rfl).1,(RwL.lone_cell h 5 _ rfl).1⟩
theorem ri_new (w w1:World) (g:Nat) (s U:St) (h:(RwL.lone 23 g (sc s)).own w1 w.heap.size) (hs:Since w w1):RI w g w1.heap.size s U (w1.alloc (.cells (sc U).toArray 23)):=by
 refine ⟨rows_push ⟨fun q hq => by rw [List.mem_singleton.1 hq]; exact h,by simp⟩ (Below.size hs) (sc U) 23,hs.alloc _⟩
theorem text_at (s:St) (fs:List UInt8) (h:layV s.v.data.toList = some fs):textV Rok s = if fs.all (okF Rok fs s) = true /\ usedO s fs = true /\ (lineW s fs).length <= 40000 then lineW s fs else []:=by
 unfold textV
 rw [h]
theorem sp_size:(⟨#[32]⟩:ByteArray).size = 1:=rfl
theorem uo_put (s:St):usedO s [78,70,66,84] = decide (s.o.data.toList = []):=by unfold usedO eB; simp
theorem uo_add (s:St):usedO s [78,70,66] = (decide (s.o.data.toList = []) && decide (s.t.data.toList = [])):=by unfold usedO eB; simp
theorem uo_get (s:St):usedO s [78] = (decide (s.o.data.toList = []) && (decide (s.f = 0) && (decide (s.t.data.toList = []) && decide (s.b.data.toList = [])))):=by unfold usedO eB; simp
theorem uo_mov (s:St):usedO s [78,79] = (decide (s.f = 0) && (decide (s.t.data.toList = []) && decide (s.b.data.toList = []))):=by unfold usedO eB; simp
theorem uo_rek (s:St):usedO s [66] = (decide (s.n.data.toList = []) && (decide (s.o.data.toList = []) && (decide (s.f = 0) && decide (s.t.data.toList = [])))):=by unfold usedO eB; simp
theorem uo_lis (s:St):usedO s [] = (decide (s.n.data.toList = []) && (decide (s.o.data.toList = []) && (decide (s.f = 0) && (decide (s.t.data.toList = []) && decide (s.b.data.toList = []))))):=by unfold usedO eB; simp
end Scr
namespace Scr
open Rw RwL Kind
open Rcd (hx)
set_option maxHeartbeats 8000000 in
theorem rtext_list (s:St) (hv:s.v.data.toList = lisL) (w:World) (R:ByteArray) (HRR:Hid (R = bs (textV Rok s))):Calls Tryz.prog 10 #[.agg #[.string s.v,.string s.n,.string s.o,.int .i64 s.f,.string s.t,.string s.b]] w fun e w' => e = .returned (.string R) /\ Since w w':=by
 have HTX:=lH (text_at s [] (by rw [hv]; rfl))
 have q1:(s.v.toList == ([112,117,116]:List UInt8)) = false:=by rw [toList_d,hv]; decide
 have q2:(s.v.toList == ([97,100,100]:List UInt8)) = false:=by rw [toList_d,hv]; decide
 have q3:(s.v.toList == ([103,101,116]:List UInt8)) = false:=by rw [toList_d,hv]; decide
 have q4:(s.v.toList == ([101,120,112,111,114,116]:List UInt8)) = false:=by rw [toList_d,hv]; decide
 have q5:(s.v.toList == ([100,114,111,112]:List UInt8)) = false:=by rw [toList_d,hv]; decide
 have q6:(s.v.toList == ([99,104,101,99,107]:List UInt8)) = false:=by rw [toList_d,hv]; decide
 have q7:(s.v.toList == ([109,111,118,101]:List UInt8)) = false:=by rw [toList_d,hv]; decide
 have q8:(s.v.toList == ([114,101,107,101,121]:List UInt8)) = false:=by rw [toList_d,hv]; decide
 have q9:(s.v.toList == ([108,105,115,116]:List UInt8)) = true:=by rw [toList_d,hv]; decide
 have HLI:=lH (show lineW s [] = [108,105,115,116] from hv)
 have HS0:=lH ((Since.refl w).alloc (.cells (sc s).toArray 23))
 have hlr:=lH ((rows_push (Rows.nil w w.heap.size) (Nat.le_refl _) (sc s) 23).own (RwL.lone 23 w.heap.size (sc s)) (by simp))
 go_enter Tryz.func10,Tryz.ntmps10
 go_wp2_with fail
 obtain ⟨wa,hwa⟩:∃ W,W = w.alloc (.cells (sc s).toArray 23):=⟨_,rfl⟩
 rw [show w.alloc (.cells #[.string s.v,.string s.n,.string s.o,.int .i64 s.f,.string s.t,.string s.b] 23) = wa from hwa.symm]
 rw [<- hwa] at hlr HS0
 clear hwa
 have hdr:Below wa.heap.size wa wa.drew:=⟨rfl,rfl,rfl,Nat.le_refl _,fun _ _ => rfl⟩
 replace hlr:=lH (Att.row_since hlr.out hdr)
 replace HS0:=lH (HS0.out.step hdr)
 clear hdr
 refine RegW.start (C6 w.heap.size s) 3 (by kernel_rfl) (c6_of hlr.out) (fun hHeld => ?_)
 obtain ⟨wb,hwb⟩:∃ W,W = wa.drew:=⟨_,rfl⟩
 rw [<- hwb] at hlr HS0 hHeld ⊢
 clear hwb
 refine RegW.take (i:=0) (v:=.agg #[.string s.v,.string s.n,.string s.o,.int .i64 s.f,.string s.t,.string s.b]) rfl (by kernel_rfl) (by kernel_rfl) (by kernel_rfl) (by kernel_rfl) (fun _ _ _ h => h) (Or.inl ⟨by kernel_rfl, ?_⟩) (by assumption) ?_
 · intro w hSw
   unfold C6 at hSw
   go_split_ands
   go_simp
   try with_reducible rfl
 try simp only [RegW.p]
 have hal:Since wb (wb.alloc (.cells #[.string ⟨#[]⟩,.string ⟨#[]⟩,.string ⟨#[]⟩,.int .i64 0,.string ⟨#[]⟩,.string ⟨#[]⟩] 23)):=(Since.refl wb).alloc _
 refine RegW.only (i:=1) rfl (by kernel_rfl) (fun K hK => ?_)
 go_simp
 refine hK.out _ _ (c6_of (Att.row_since hlr.out hal)) (fun hHeld2 => ?_)
 clear hK K hHeld hal
 try simp only [RegW.p]
 refine RegW.tk 2 rfl ?_
 try simp only [RegW.p]
 clear hHeld2
 refine RegW.last rfl (by kernel_rfl) (by kernel_rfl) ?_
 have HI:=lH (ri_new w wb w.heap.size s ⟨⟨#[]⟩,s.n,s.o,s.f,s.t,s.b⟩ hlr.out HS0.out)
 unfold sc at HI
 have m0:=ri_cs HI 0 _ rfl
 have m1:=ri_cs HI 1 _ rfl
 have m2:=ri_cs HI 2 _ rfl
 have m3:=ri_cs HI 3 _ rfl
 have m4:=ri_cs HI 4 _ rfl
 have m5:=ri_cs HI 5 _ rfl
 have n0:=(ri_cu HI 0 _ rfl).1
 have n1:=(ri_cu HI 1 _ rfl).1
 have n2:=(ri_cu HI 2 _ rfl).1
 have n3:=(ri_cu HI 3 _ rfl).1
 have n4:=(ri_cu HI 4 _ rfl).1
 have n5:=(ri_cu HI 5 _ rfl).1
 by_cases hn:s.n.data.toList = []
 rotate_left
 · have zn:(s.n.toList == ([]:List UInt8)) = false:=by rw [toList_d]; exact beq_eq_false_iff_ne.2 hn
   have HV:Hid (R = ⟨#[]⟩):=lH (by rw [HRR.out,HTX.out,if_neg (fun h => by have h9:=h.2.1; rw [uo_lis s] at h9; simp [hn] at h9)]; rfl)
   go_wp2_with fail
   go_ret
   rw [HV.out]
   exact ⟨rfl,HI.out.since⟩
 have zn:(s.n.toList == ([]:List UInt8)) = true:=by rw [toList_d,hn]; rfl
 have Hn:=lH hn
 clear hn
 by_cases ho:s.o.data.toList = []
 rotate_left
 · have zo:(s.o.toList == ([]:List UInt8)) = false:=by rw [toList_d]; exact beq_eq_false_iff_ne.2 ho
   have HV:Hid (R = ⟨#[]⟩):=lH (by rw [HRR.out,HTX.out,if_neg (fun h => by have h9:=h.2.1; rw [uo_lis s] at h9; simp [ho] at h9)]; rfl)
   go_wp2_with fail
   go_ret
   rw [HV.out]
   exact ⟨rfl,HI.out.since⟩
 have zo:(s.o.toList == ([]:List UInt8)) = true:=by rw [toList_d,ho]; rfl
 have Ho:=lH ho
 clear ho
 by_cases hf:s.f = 0
 rotate_left
 · have zf:(s.f == 0) = false:=beq_eq_false_iff_ne.2 hf
   have HV:Hid (R = ⟨#[]⟩):=lH (by rw [HRR.out,HTX.out,if_neg (fun h => by have h9:=h.2.1; rw [uo_lis s] at h9; simp [hf] at h9)]; rfl)
   go_wp2_with fail
   go_ret
   rw [HV.out]
   exact ⟨rfl,HI.out.since⟩
 have zf:(s.f == 0) = true:=by rw [hf]; rfl
 have Hf:=lH hf
 clear hf
 by_cases ht:s.t.data.toList = []
 rotate_left
 · have zt:(s.t.toList == ([]:List UInt8)) = false:=by rw [toList_d]; exact beq_eq_false_iff_ne.2 ht
   have HV:Hid (R = ⟨#[]⟩):=lH (by rw [HRR.out,HTX.out,if_neg (fun h => by have h9:=h.2.1; rw [uo_lis s] at h9; simp [ht] at h9)]; rfl)
   go_wp2_with fail
   go_ret
   rw [HV.out]
   exact ⟨rfl,HI.out.since⟩
 have zt:(s.t.toList == ([]:List UInt8)) = true:=by rw [toList_d,ht]; rfl
 have Ht:=lH ht
 clear ht
 by_cases hb:s.b.data.toList = []
 rotate_left
 · have zb:(s.b.toList == ([]:List UInt8)) = false:=by rw [toList_d]; exact beq_eq_false_iff_ne.2 hb
   have HV:Hid (R = ⟨#[]⟩):=lH (by rw [HRR.out,HTX.out,if_neg (fun h => by have h9:=h.2.1; rw [uo_lis s] at h9; simp [hb] at h9)]; rfl)
   go_wp2_with fail
   go_ret
   rw [HV.out]
   exact ⟨rfl,HI.out.since⟩
 have zb:(s.b.toList == ([]:List UInt8)) = true:=by rw [toList_d,hb]; rfl
 have Hb:=lH hb
 clear hb
 have HV:Hid (R = ⟨#[108,105,115,116]⟩):=lH (by
   rw [HRR.out,HTX.out,if_pos ⟨rfl,by rw [uo_lis,Hn.out,Ho.out,Hf.out,Ht.out,Hb.out]; rfl,by rw [HLI.out]; decide⟩,HLI.out]
   rfl)
 go_wp2_with fail
 go_ret
 rw [HV.out]
 exact ⟨rfl,HI.out.since⟩
theorem name_size {x:ByteArray} (h:nameO x.data.toList = true):x.size <= 100:=by
 unfold nameO at h
 simp only [Bool.and_eq_true,decide_eq_true_eq] at h
 exact h.2.1
set_option maxHeartbeats 8000000 in
theorem rtext_get (s:St) (hv:s.v.data.toList = getL) (hn9:s.n.size <= 40000) (w:World) (_hT:Tab2 w) (R:ByteArray) (HRR:Hid (R = bs (textV Rok s))):Calls Tryz.prog 10 #[.agg #[.string s.v,.string s.n,.string s.o,.int .i64 s.f,.string s.t,.string s.b]] w fun e w' => e = .returned (.string R) /\ Since w w':=by
 have HTX:=lH (text_at s [78] (by rw [hv]; rfl))
 have q1:(s.v.toList == ([112,117,116]:List UInt8)) = false:=by rw [toList_d,hv]; decide
 have q2:(s.v.toList == ([97,100,100]:List UInt8)) = false:=by rw [toList_d,hv]; decide
 have q3:(s.v.toList == ([103,101,116]:List UInt8)) = true:=by rw [toList_d,hv]; decide
 have hvz:s.v.size = 3:=by show s.v.data.toList.length = _; rw [hv]; rfl
 have c1:=rname_ret s.n
 have HLI:Hid (lineW s [78] = (s.v ++ ⟨#[32]⟩ ++ s.n).data.toList):=lH (by rw [app_list,app_list]; simp [lineW,Sp.joinC,wd])
 have HS0:=lH ((Since.refl w).alloc (.cells (sc s).toArray 23))
 have hlr:=lH ((rows_push (Rows.nil w w.heap.size) (Nat.le_refl _) (sc s) 23).own (RwL.lone 23 w.heap.size (sc s)) (by simp))
 go_enter Tryz.func10,Tryz.ntmps10
 go_wp2_with fail
 obtain ⟨wa,hwa⟩:∃ W,W = w.alloc (.cells (sc s).toArray 23):=⟨_,rfl⟩
 rw [show w.alloc (.cells #[.string s.v,.string s.n,.string s.o,.int .i64 s.f,.string s.t,.string s.b] 23) = wa from hwa.symm]
 rw [<- hwa] at hlr HS0
 clear hwa
 have hdr:Below wa.heap.size wa wa.drew:=⟨rfl,rfl,rfl,Nat.le_refl _,fun _ _ => rfl⟩
 replace hlr:=lH (Att.row_since hlr.out hdr)
 replace HS0:=lH (HS0.out.step hdr)
 clear hdr
 refine RegW.start (C6 w.heap.size s) 3 (by kernel_rfl) (c6_of hlr.out) (fun hHeld => ?_)
 obtain ⟨wb,hwb⟩:∃ W,W = wa.drew:=⟨_,rfl⟩
 rw [<- hwb] at hlr HS0 hHeld ⊢
 clear hwb
 refine RegW.take (i:=0) (v:=.agg #[.string s.v,.string s.n,.string s.o,.int .i64 s.f,.string s.t,.string s.b]) rfl (by kernel_rfl) (by kernel_rfl) (by kernel_rfl) (by kernel_rfl) (fun _ _ _ h => h) (Or.inl ⟨by kernel_rfl, ?_⟩) (by assumption) ?_
 · intro w hSw
   unfold C6 at hSw
   go_split_ands
   go_simp
   try with_reducible rfl
 try simp only [RegW.p]
 have hal:Since wb (wb.alloc (.cells #[.string ⟨#[]⟩,.string ⟨#[]⟩,.string ⟨#[]⟩,.int .i64 0,.string ⟨#[]⟩,.string ⟨#[]⟩] 23)):=(Since.refl wb).alloc _
 refine RegW.only (i:=1) rfl (by kernel_rfl) (fun K hK => ?_)
 go_simp
 refine hK.out _ _ (c6_of (Att.row_since hlr.out hal)) (fun hHeld2 => ?_)
 clear hK K hHeld hal
 try simp only [RegW.p]
 refine RegW.tk 2 rfl ?_
 try simp only [RegW.p]
 clear hHeld2
 refine RegW.last rfl (by kernel_rfl) (by kernel_rfl) ?_
 have HI:=lH (ri_new w wb w.heap.size s ⟨⟨#[]⟩,s.n,s.o,s.f,s.t,s.b⟩ hlr.out HS0.out)
 unfold sc at HI
 have m0:=ri_cs HI 0 _ rfl
 have m1:=ri_cs HI 1 _ rfl
 have m2:=ri_cs HI 2 _ rfl
 have m3:=ri_cs HI 3 _ rfl
 have m4:=ri_cs HI 4 _ rfl
 have m5:=ri_cs HI 5 _ rfl
 go_wp2_with fail
 refine (c1 _).mono ?_
 rintro _ w5 ⟨rfl,rfl⟩
 cases hk:nameO s.n.data.toList
 · have HV:Hid (R = ⟨#[]⟩):=lH (by rw [HRR.out,HTX.out,if_neg (fun h => by have h9:=h.1; simp [okFN,hk] at h9)]; rfl)
   go_wp2_with fail
   go_ret
   rw [HV.out]
   exact ⟨rfl,HI.out.since⟩
 have hnz:s.n.size <= 100:=name_size hk
 have y1:¬ 9223372036854775807 < s.v.size + (⟨#[32]⟩:ByteArray).size:=by rw [sp_size]; omega
 have y2:¬ 9223372036854775807 < (s.v ++ ⟨#[32]⟩).size + s.n.size:=by rw [ByteArray.size_append,sp_size]; omega
 clear HI
 have HI:=lH (ri_new w wb w.heap.size s ⟨⟨#[]⟩,⟨#[]⟩,s.o,s.f,s.t,s.b⟩ hlr.out HS0.out)
 unfold sc at HI
 have n0:=(ri_cu HI 0 _ rfl).1
 have n1:=(ri_cu HI 1 _ rfl).1
 have n2:=(ri_cu HI 2 _ rfl).1
 have n3:=(ri_cu HI 3 _ rfl).1
 have n4:=(ri_cu HI 4 _ rfl).1
 have n5:=(ri_cu HI 5 _ rfl).1
 by_cases ho:s.o.data.toList = []
 rotate_left
 · have zo:(s.o.toList == ([]:List UInt8)) = false:=by rw [toList_d]; exact beq_eq_false_iff_ne.2 ho
   have HV:Hid (R = ⟨#[]⟩):=lH (by rw [HRR.out,HTX.out,if_neg (fun h => by have h9:=h.2.1; rw [uo_get s] at h9; simp [ho] at h9)]; rfl)
   go_wp2_with fail
   go_ret
   rw [HV.out]
   exact ⟨rfl,HI.out.since⟩
 have zo:(s.o.toList == ([]:List UInt8)) = true:=by rw [toList_d,ho]; rfl
 have Ho:=lH ho
 clear ho
 by_cases hf:s.f = 0
 rotate_left
 · have zf:(s.f == 0) = false:=beq_eq_false_iff_ne.2 hf
   have HV:Hid (R = ⟨#[]⟩):=lH (by rw [HRR.out,HTX.out,if_neg (fun h => by have h9:=h.2.1; rw [uo_get s] at h9; simp [hf] at h9)]; rfl)
   go_wp2_with fail
   go_ret
   rw [HV.out]
   exact ⟨rfl,HI.out.since⟩
 have zf:(s.f == 0) = true:=by rw [hf]; rfl
 have Hf:=lH hf
 clear hf
 by_cases ht:s.t.data.toList = []
 rotate_left
 · have zt:(s.t.toList == ([]:List UInt8)) = false:=by rw [toList_d]; exact beq_eq_false_iff_ne.2 ht
   have HV:Hid (R = ⟨#[]⟩):=lH (by rw [HRR.out,HTX.out,if_neg (fun h => by have h9:=h.2.1; rw [uo_get s] at h9; simp [ht] at h9)]; rfl)
   go_wp2_with fail
   go_ret
   rw [HV.out]
   exact ⟨rfl,HI.out.since⟩
 have zt:(s.t.toList == ([]:List UInt8)) = true:=by rw [toList_d,ht]; rfl
 have Ht:=lH ht
 clear ht
 by_cases hb:s.b.data.toList = []
 rotate_left
 · have zb:(s.b.toList == ([]:List UInt8)) = false:=by rw [toList_d]; exact beq_eq_false_iff_ne.2 hb
   have HV:Hid (R = ⟨#[]⟩):=lH (by rw [HRR.out,HTX.out,if_neg (fun h => by have h9:=h.2.1; rw [uo_get s] at h9; simp [hb] at h9)]; rfl)
   go_wp2_with fail
   go_ret
   rw [HV.out]
   exact ⟨rfl,HI.out.since⟩
 have zb:(s.b.toList == ([]:List UInt8)) = true:=by rw [toList_d,hb]; rfl
 have Hb:=lH hb
 clear hb
 have HV:Hid (R = s.v ++ ⟨#[32]⟩ ++ s.n):=lH (by
   rw [HRR.out,HTX.out,if_pos ⟨by simp [okFN,hk],by rw [uo_get,Ho.out,Hf.out,Ht.out,Hb.out]; rfl,by rw [HLI.out]; show (s.v ++ ⟨#[32]⟩ ++ s.n).size <= _; rw [ByteArray.size_append,ByteArray.size_append,sp_size]; omega⟩,HLI.out,bs_l])
 go_wp2_with fail
 go_ret
 rw [HV.out]
 exact ⟨rfl,HI.out.since⟩
set_option maxHeartbeats 8000000 in
theorem rtext_exp (s:St) (hv:s.v.data.toList = expL) (hn9:s.n.size <= 40000) (w:World) (_hT:Tab2 w) (R:ByteArray) (HRR:Hid (R = bs (textV Rok s))):Calls Tryz.prog 10 #[.agg #[.string s.v,.string s.n,.string s.o,.int .i64 s.f,.string s.t,.string s.b]] w fun e w' => e = .returned (.string R) /\ Since w w':=by
 have HTX:=lH (text_at s [78] (by rw [hv]; rfl))
 have q1:(s.v.toList == ([112,117,116]:List UInt8)) = false:=by rw [toList_d,hv]; decide
 have q2:(s.v.toList == ([97,100,100]:List UInt8)) = false:=by rw [toList_d,hv]; decide
 have q3:(s.v.toList == ([103,101,116]:List UInt8)) = false:=by rw [toList_d,hv]; decide
 have q4:(s.v.toList == ([101,120,112,111,114,116]:List UInt8)) = true:=by rw [toList_d,hv]; decide
 have hvz:s.v.size = 6:=by show s.v.data.toList.length = _; rw [hv]; rfl
 have c1:=rname_ret s.n
 have HLI:Hid (lineW s [78] = (s.v ++ ⟨#[32]⟩ ++ s.n).data.toList):=lH (by rw [app_list,app_list]; simp [lineW,Sp.joinC,wd])
 have HS0:=lH ((Since.refl w).alloc (.cells (sc s).toArray 23))
 have hlr:=lH ((rows_push (Rows.nil w w.heap.size) (Nat.le_refl _) (sc s) 23).own (RwL.lone 23 w.heap.size (sc s)) (by simp))
 go_enter Tryz.func10,Tryz.ntmps10
 go_wp2_with fail
 obtain ⟨wa,hwa⟩:∃ W,W = w.alloc (.cells (sc s).toArray 23):=⟨_,rfl⟩
 rw [show w.alloc (.cells #[.string s.v,.string s.n,.string s.o,.int .i64 s.f,.string s.t,.string s.b] 23) = wa from hwa.symm]
 rw [<- hwa] at hlr HS0
 clear hwa
 have hdr:Below wa.heap.size wa wa.drew:=⟨rfl,rfl,rfl,Nat.le_refl _,fun _ _ => rfl⟩
 replace hlr:=lH (Att.row_since hlr.out hdr)
 replace HS0:=lH (HS0.out.step hdr)
 clear hdr
 refine RegW.start (C6 w.heap.size s) 3 (by kernel_rfl) (c6_of hlr.out) (fun hHeld => ?_)
 obtain ⟨wb,hwb⟩:∃ W,W = wa.drew:=⟨_,rfl⟩
 rw [<- hwb] at hlr HS0 hHeld ⊢
 clear hwb
 refine RegW.take (i:=0) (v:=.agg #[.string s.v,.string s.n,.string s.o,.int .i64 s.f,.string s.t,.string s.b]) rfl (by kernel_rfl) (by kernel_rfl) (by kernel_rfl) (by kernel_rfl) (fun _ _ _ h => h) (Or.inl ⟨by kernel_rfl, ?_⟩) (by assumption) ?_
 · intro w hSw
   unfold C6 at hSw
   go_split_ands
   go_simp
   try with_reducible rfl
 try simp only [RegW.p]
 have hal:Since wb (wb.alloc (.cells #[.string ⟨#[]⟩,.string ⟨#[]⟩,.string ⟨#[]⟩,.int .i64 0,.string ⟨#[]⟩,.string ⟨#[]⟩] 23)):=(Since.refl wb).alloc _
 refine RegW.only (i:=1) rfl (by kernel_rfl) (fun K hK => ?_)
 go_simp
 refine hK.out _ _ (c6_of (Att.row_since hlr.out hal)) (fun hHeld2 => ?_)
 clear hK K hHeld hal
 try simp only [RegW.p]
 refine RegW.tk 2 rfl ?_
 try simp only [RegW.p]
 clear hHeld2
 refine RegW.last rfl (by kernel_rfl) (by kernel_rfl) ?_
 have HI:=lH (ri_new w wb w.heap.size s ⟨⟨#[]⟩,s.n,s.o,s.f,s.t,s.b⟩ hlr.out HS0.out)
 unfold sc at HI
 have m0:=ri_cs HI 0 _ rfl
 have m1:=ri_cs HI 1 _ rfl
 have m2:=ri_cs HI 2 _ rfl
 have m3:=ri_cs HI 3 _ rfl
 have m4:=ri_cs HI 4 _ rfl
 have m5:=ri_cs HI 5 _ rfl
 go_wp2_with fail
 refine (c1 _).mono ?_
 rintro _ w5 ⟨rfl,rfl⟩
 cases hk:nameO s.n.data.toList
 · have HV:Hid (R = ⟨#[]⟩):=lH (by rw [HRR.out,HTX.out,if_neg (fun h => by have h9:=h.1; simp [okFN,hk] at h9)]; rfl)
   go_wp2_with fail
   go_ret
   rw [HV.out]
   exact ⟨rfl,HI.out.since⟩
 have hnz:s.n.size <= 100:=name_size hk
 have y1:¬ 9223372036854775807 < s.v.size + (⟨#[32]⟩:ByteArray).size:=by rw [sp_size]; omega
 have y2:¬ 9223372036854775807 < (s.v ++ ⟨#[32]⟩).size + s.n.size:=by rw [ByteArray.size_append,sp_size]; omega
 clear HI
 have HI:=lH (ri_new w wb w.heap.size s ⟨⟨#[]⟩,⟨#[]⟩,s.o,s.f,s.t,s.b⟩ hlr.out HS0.out)
 unfold sc at HI
 have n0:=(ri_cu HI 0 _ rfl).1
 have n1:=(ri_cu HI 1 _ rfl).1
 have n2:=(ri_cu HI 2 _ rfl).1
 have n3:=(ri_cu HI 3 _ rfl).1
 have n4:=(ri_cu HI 4 _ rfl).1
 have n5:=(ri_cu HI 5 _ rfl).1
 by_cases ho:s.o.data.toList = []
 rotate_left
 · have zo:(s.o.toList == ([]:List UInt8)) = false:=by rw [toList_d]; exact beq_eq_false_iff_ne.2 ho
   have HV:Hid (R = ⟨#[]⟩):=lH (by rw [HRR.out,HTX.out,if_neg (fun h => by have h9:=h.2.1; rw [uo_get s] at h9; simp [ho] at h9)]; rfl)
   go_wp2_with fail
   go_ret
   rw [HV.out]
   exact ⟨rfl,HI.out.since⟩
 have zo:(s.o.toList == ([]:List UInt8)) = true:=by rw [toList_d,ho]; rfl
 have Ho:=lH ho
 clear ho
 by_cases hf:s.f = 0
 rotate_left
 · have zf:(s.f == 0) = false:=beq_eq_false_iff_ne.2 hf
   have HV:Hid (R = ⟨#[]⟩):=lH (by rw [HRR.out,HTX.out,if_neg (fun h => by have h9:=h.2.1; rw [uo_get s] at h9; simp [hf] at h9)]; rfl)
   go_wp2_with fail
   go_ret
   rw [HV.out]
   exact ⟨rfl,HI.out.since⟩
 have zf:(s.f == 0) = true:=by rw [hf]; rfl
 have Hf:=lH hf
 clear hf
 by_cases ht:s.t.data.toList = []
 rotate_left
 · have zt:(s.t.toList == ([]:List UInt8)) = false:=by rw [toList_d]; exact beq_eq_false_iff_ne.2 ht
   have HV:Hid (R = ⟨#[]⟩):=lH (by rw [HRR.out,HTX.out,if_neg (fun h => by have h9:=h.2.1; rw [uo_get s] at h9; simp [ht] at h9)]; rfl)
   go_wp2_with fail
   go_ret
   rw [HV.out]
   exact ⟨rfl,HI.out.since⟩
 have zt:(s.t.toList == ([]:List UInt8)) = true:=by rw [toList_d,ht]; rfl
 have Ht:=lH ht
 clear ht
 by_cases hb:s.b.data.toList = []
 rotate_left
 · have zb:(s.b.toList == ([]:List UInt8)) = false:=by rw [toList_d]; exact beq_eq_false_iff_ne.2 hb
   have HV:Hid (R = ⟨#[]⟩):=lH (by rw [HRR.out,HTX.out,if_neg (fun h => by have h9:=h.2.1; rw [uo_get s] at h9; simp [hb] at h9)]; rfl)
   go_wp2_with fail
   go_ret
   rw [HV.out]
   exact ⟨rfl,HI.out.since⟩
 have zb:(s.b.toList == ([]:List UInt8)) = true:=by rw [toList_d,hb]; rfl
 have Hb:=lH hb
 clear hb
 have HV:Hid (R = s.v ++ ⟨#[32]⟩ ++ s.n):=lH (by
   rw [HRR.out,HTX.out,if_pos ⟨by simp [okFN,hk],by rw [uo_get,Ho.out,Hf.out,Ht.out,Hb.out]; rfl,by rw [HLI.out]; show (s.v ++ ⟨#[32]⟩ ++ s.n).size <= _; rw [ByteArray.size_append,ByteArray.size_append,sp_size]; omega⟩,HLI.out,bs_l])
 go_wp2_with fail
 go_ret
 rw [HV.out]
 exact ⟨rfl,HI.out.since⟩
set_option maxHeartbeats 8000000 in
theorem rtext_dro (s:St) (hv:s.v.data.toList = droL) (hn9:s.n.size <= 40000) (w:World) (_hT:Tab2 w) (R:ByteArray) (HRR:Hid (R = bs (textV Rok s))):Calls Tryz.prog 10 #[.agg #[.string s.v,.string s.n,.string s.o,.int .i64 s.f,.string s.t,.string s.b]] w fun e w' => e = .returned (.string R) /\ Since w w':=by
 have HTX:=lH (text_at s [78] (by rw [hv]; rfl))
 have q1:(s.v.toList == ([112,117,116]:List UInt8)) = false:=by rw [toList_d,hv]; decide
 have q2:(s.v.toList == ([97,100,100]:List UInt8)) = false:=by rw [toList_d,hv]; decide
 have q3:(s.v.toList == ([103,101,116]:List UInt8)) = false:=by rw [toList_d,hv]; decide
 have q4:(s.v.toList == ([101,120,112,111,114,116]:List UInt8)) = false:=by rw [toList_d,hv]; decide
 have q5:(s.v.toList == ([100,114,111,112]:List UInt8)) = true:=by rw [toList_d,hv]; decide
 have hvz:s.v.size = 4:=by show s.v.data.toList.length = _; rw [hv]; rfl
 have c1:=rname_ret s.n
 have HLI:Hid (lineW s [78] = (s.v ++ ⟨#[32]⟩ ++ s.n).data.toList):=lH (by rw [app_list,app_list]; simp [lineW,Sp.joinC,wd])
 have HS0:=lH ((Since.refl w).alloc (.cells (sc s).toArray 23))
 have hlr:=lH ((rows_push (Rows.nil w w.heap.size) (Nat.le_refl _) (sc s) 23).own (RwL.lone 23 w.heap.size (sc s)) (by simp))
 go_enter Tryz.func10,Tryz.ntmps10
 go_wp2_with fail
 obtain ⟨wa,hwa⟩:∃ W,W = w.alloc (.cells (sc s).toArray 23):=⟨_,rfl⟩
 rw [show w.alloc (.cells #[.string s.v,.string s.n,.string s.o,.int .i64 s.f,.string s.t,.string s.b] 23) = wa from hwa.symm]
 rw [<- hwa] at hlr HS0
 clear hwa
 have hdr:Below wa.heap.size wa wa.drew:=⟨rfl,rfl,rfl,Nat.le_refl _,fun _ _ => rfl⟩
 replace hlr:=lH (Att.row_since hlr.out hdr)
 replace HS0:=lH (HS0.out.step hdr)
 clear hdr
 refine RegW.start (C6 w.heap.size s) 3 (by kernel_rfl) (c6_of hlr.out) (fun hHeld => ?_)
 obtain ⟨wb,hwb⟩:∃ W,W = wa.drew:=⟨_,rfl⟩
 rw [<- hwb] at hlr HS0 hHeld ⊢
 clear hwb
 refine RegW.take (i:=0) (v:=.agg #[.string s.v,.string s.n,.string s.o,.int .i64 s.f,.string s.t,.string s.b]) rfl (by kernel_rfl) (by kernel_rfl) (by kernel_rfl) (by kernel_rfl) (fun _ _ _ h => h) (Or.inl ⟨by kernel_rfl, ?_⟩) (by assumption) ?_
 · intro w hSw
   unfold C6 at hSw
   go_split_ands
   go_simp
   try with_reducible rfl
 try simp only [RegW.p]
 have hal:Since wb (wb.alloc (.cells #[.string ⟨#[]⟩,.string ⟨#[]⟩,.string ⟨#[]⟩,.int .i64 0,.string ⟨#[]⟩,.string ⟨#[]⟩] 23)):=(Since.refl wb).alloc _
 refine RegW.only (i:=1) rfl (by kernel_rfl) (fun K hK => ?_)
 go_simp
 refine hK.out _ _ (c6_of (Att.row_since hlr.out hal)) (fun hHeld2 => ?_)
 clear hK K hHeld hal
 try simp only [RegW.p]
 refine RegW.tk 2 rfl ?_
 try simp only [RegW.p]
 clear hHeld2
 refine RegW.last rfl (by kernel_rfl) (by kernel_rfl) ?_
 have HI:=lH (ri_new w wb w.heap.size s ⟨⟨#[]⟩,s.n,s.o,s.f,s.t,s.b⟩ hlr.out HS0.out)
 unfold sc at HI
 have m0:=ri_cs HI 0 _ rfl
 have m1:=ri_cs HI 1 _ rfl
 have m2:=ri_cs HI 2 _ rfl
 have m3:=ri_cs HI 3 _ rfl
 have m4:=ri_cs HI 4 _ rfl
 have m5:=ri_cs HI 5 _ rfl
 go_wp2_with fail
 refine (c1 _).mono ?_
 rintro _ w5 ⟨rfl,rfl⟩
 cases hk:nameO s.n.data.toList
 · have HV:Hid (R = ⟨#[]⟩):=lH (by rw [HRR.out,HTX.out,if_neg (fun h => by have h9:=h.1; simp [okFN,hk] at h9)]; rfl)
   go_wp2_with fail
   go_ret
   rw [HV.out]
   exact ⟨rfl,HI.out.since⟩
 have hnz:s.n.size <= 100:=name_size hk
 have y1:¬ 9223372036854775807 < s.v.size + (⟨#[32]⟩:ByteArray).size:=by rw [sp_size]; omega
 have y2:¬ 9223372036854775807 < (s.v ++ ⟨#[32]⟩).size + s.n.size:=by rw [ByteArray.size_append,sp_size]; omega
 clear HI
 have HI:=lH (ri_new w wb w.heap.size s ⟨⟨#[]⟩,⟨#[]⟩,s.o,s.f,s.t,s.b⟩ hlr.out HS0.out)
 unfold sc at HI
 have n0:=(ri_cu HI 0 _ rfl).1
 have n1:=(ri_cu HI 1 _ rfl).1
 have n2:=(ri_cu HI 2 _ rfl).1
 have n3:=(ri_cu HI 3 _ rfl).1
 have n4:=(ri_cu HI 4 _ rfl).1
 have n5:=(ri_cu HI 5 _ rfl).1
 by_cases ho:s.o.data.toList = []
 rotate_left
 · have zo:(s.o.toList == ([]:List UInt8)) = false:=by rw [toList_d]; exact beq_eq_false_iff_ne.2 ho
   have HV:Hid (R = ⟨#[]⟩):=lH (by rw [HRR.out,HTX.out,if_neg (fun h => by have h9:=h.2.1; rw [uo_get s] at h9; simp [ho] at h9)]; rfl)
   go_wp2_with fail
   go_ret
   rw [HV.out]
   exact ⟨rfl,HI.out.since⟩
 have zo:(s.o.toList == ([]:List UInt8)) = true:=by rw [toList_d,ho]; rfl
 have Ho:=lH ho
 clear ho
 by_cases hf:s.f = 0
 rotate_left
 · have zf:(s.f == 0) = false:=beq_eq_false_iff_ne.2 hf
   have HV:Hid (R = ⟨#[]⟩):=lH (by rw [HRR.out,HTX.out,if_neg (fun h => by have h9:=h.2.1; rw [uo_get s] at h9; simp [hf] at h9)]; rfl)
   go_wp2_with fail
   go_ret
   rw [HV.out]
   exact ⟨rfl,HI.out.since⟩
 have zf:(s.f == 0) = true:=by rw [hf]; rfl
 have Hf:=lH hf
 clear hf
 by_cases ht:s.t.data.toList = []
 rotate_left
 · have zt:(s.t.toList == ([]:List UInt8)) = false:=by rw [toList_d]; exact beq_eq_false_iff_ne.2 ht
   have HV:Hid (R = ⟨#[]⟩):=lH (by rw [HRR.out,HTX.out,if_neg (fun h => by have h9:=h.2.1; rw [uo_get s] at h9; simp [ht] at h9)]; rfl)
   go_wp2_with fail
   go_ret
   rw [HV.out]
   exact ⟨rfl,HI.out.since⟩
 have zt:(s.t.toList == ([]:List UInt8)) = true:=by rw [toList_d,ht]; rfl
 have Ht:=lH ht
 clear ht
 by_cases hb:s.b.data.toList = []
 rotate_left
 · have zb:(s.b.toList == ([]:List UInt8)) = false:=by rw [toList_d]; exact beq_eq_false_iff_ne.2 hb
   have HV:Hid (R = ⟨#[]⟩):=lH (by rw [HRR.out,HTX.out,if_neg (fun h => by have h9:=h.2.1; rw [uo_get s] at h9; simp [hb] at h9)]; rfl)
   go_wp2_with fail
   go_ret
   rw [HV.out]
   exact ⟨rfl,HI.out.since⟩
 have zb:(s.b.toList == ([]:List UInt8)) = true:=by rw [toList_d,hb]; rfl
 have Hb:=lH hb
 clear hb
 have HV:Hid (R = s.v ++ ⟨#[32]⟩ ++ s.n):=lH (by
   rw [HRR.out,HTX.out,if_pos ⟨by simp [okFN,hk],by rw [uo_get,Ho.out,Hf.out,Ht.out,Hb.out]; rfl,by rw [HLI.out]; show (s.v ++ ⟨#[32]⟩ ++ s.n).size <= _; rw [ByteArray.size_append,ByteArray.size_append,sp_size]; omega⟩,HLI.out,bs_l])
 go_wp2_with fail
 go_ret
 rw [HV.out]
 exact ⟨rfl,HI.out.since⟩
set_option maxHeartbeats 8000000 in
theorem rtext_che (s:St) (hv:s.v.data.toList = cheL) (hn9:s.n.size <= 40000) (w:World) (_hT:Tab2 w) (R:ByteArray) (HRR:Hid (R = bs (textV Rok s))):Calls Tryz.prog 10 #[.agg #[.string s.v,.string s.n,.string s.o,.int .i64 s.f,.string s.t,.string s.b]] w fun e w' => e = .returned (.string R) /\ Since w w':=by
 have HTX:=lH (text_at s [78] (by rw [hv]; rfl))
 have q1:(s.v.toList == ([112,117,116]:List UInt8)) = false:=by rw [toList_d,hv]; decide
 have q2:(s.v.toList == ([97,100,100]:List UInt8)) = false:=by rw [toList_d,hv]; decide
 have q3:(s.v.toList == ([103,101,116]:List UInt8)) = false:=by rw [toList_d,hv]; decide
 have q4:(s.v.toList == ([101,120,112,111,114,116]:List UInt8)) = false:=by rw [toList_d,hv]; decide
 have q5:(s.v.toList == ([100,114,111,112]:List UInt8)) = false:=by rw [toList_d,hv]; decide
 have q6:(s.v.toList == ([99,104,101,99,107]:List UInt8)) = true:=by rw [toList_d,hv]; decide
 have hvz:s.v.size = 5:=by show s.v.data.toList.length = _; rw [hv]; rfl
 have c1:=rname_ret s.n
 have HLI:Hid (lineW s [78] = (s.v ++ ⟨#[32]⟩ ++ s.n).data.toList):=lH (by rw [app_list,app_list]; simp [lineW,Sp.joinC,wd])
 have HS0:=lH ((Since.refl w).alloc (.cells (sc s).toArray 23))
 have hlr:=lH ((rows_push (Rows.nil w w.heap.size) (Nat.le_refl _) (sc s) 23).own (RwL.lone 23 w.heap.size (sc s)) (by simp))
 go_enter Tryz.func10,Tryz.ntmps10
 go_wp2_with fail
 obtain ⟨wa,hwa⟩:∃ W,W = w.alloc (.cells (sc s).toArray 23):=⟨_,rfl⟩
 rw [show w.alloc (.cells #[.string s.v,.string s.n,.string s.o,.int .i64 s.f,.string s.t,.string s.b] 23) = wa from hwa.symm]
 rw [<- hwa] at hlr HS0
 clear hwa
 have hdr:Below wa.heap.size wa wa.drew:=⟨rfl,rfl,rfl,Nat.le_refl _,fun _ _ => rfl⟩
 replace hlr:=lH (Att.row_since hlr.out hdr)
 replace HS0:=lH (HS0.out.step hdr)
 clear hdr
 refine RegW.start (C6 w.heap.size s) 3 (by kernel_rfl) (c6_of hlr.out) (fun hHeld => ?_)
 obtain ⟨wb,hwb⟩:∃ W,W = wa.drew:=⟨_,rfl⟩
 rw [<- hwb] at hlr HS0 hHeld ⊢
 clear hwb
 refine RegW.take (i:=0) (v:=.agg #[.string s.v,.string s.n,.string s.o,.int .i64 s.f,.string s.t,.string s.b]) rfl (by kernel_rfl) (by kernel_rfl) (by kernel_rfl) (by kernel_rfl) (fun _ _ _ h => h) (Or.inl ⟨by kernel_rfl, ?_⟩) (by assumption) ?_
 · intro w hSw
   unfold C6 at hSw
   go_split_ands
   go_simp
   try with_reducible rfl
 try simp only [RegW.p]
 have hal:Since wb (wb.alloc (.cells #[.string ⟨#[]⟩,.string ⟨#[]⟩,.string ⟨#[]⟩,.int .i64 0,.string ⟨#[]⟩,.string ⟨#[]⟩] 23)):=(Since.refl wb).alloc _
 refine RegW.only (i:=1) rfl (by kernel_rfl) (fun K hK => ?_)
 go_simp
 refine hK.out _ _ (c6_of (Att.row_since hlr.out hal)) (fun hHeld2 => ?_)
 clear hK K hHeld hal
 try simp only [RegW.p]
 refine RegW.tk 2 rfl ?_
 try simp only [RegW.p]
 clear hHeld2
 refine RegW.last rfl (by kernel_rfl) (by kernel_rfl) ?_
 have HI:=lH (ri_new w wb w.heap.size s ⟨⟨#[]⟩,s.n,s.o,s.f,s.t,s.b⟩ hlr.out HS0.out)
 unfold sc at HI
 have m0:=ri_cs HI 0 _ rfl
 have m1:=ri_cs HI 1 _ rfl
 have m2:=ri_cs HI 2 _ rfl
 have m3:=ri_cs HI 3 _ rfl
 have m4:=ri_cs HI 4 _ rfl
 have m5:=ri_cs HI 5 _ rfl
 go_wp2_with fail
 refine (c1 _).mono ?_
 rintro _ w5 ⟨rfl,rfl⟩
 cases hk:nameO s.n.data.toList
 · have HV:Hid (R = ⟨#[]⟩):=lH (by rw [HRR.out,HTX.out,if_neg (fun h => by have h9:=h.1; simp [okFN,hk] at h9)]; rfl)
   go_wp2_with fail
   go_ret
   rw [HV.out]
   exact ⟨rfl,HI.out.since⟩
 have hnz:s.n.size <= 100:=name_size hk
 have y1:¬ 9223372036854775807 < s.v.size + (⟨#[32]⟩:ByteArray).size:=by rw [sp_size]; omega
 have y2:¬ 9223372036854775807 < (s.v ++ ⟨#[32]⟩).size + s.n.size:=by rw [ByteArray.size_append,sp_size]; omega
 clear HI
 have HI:=lH (ri_new w wb w.heap.size s ⟨⟨#[]⟩,⟨#[]⟩,s.o,s.f,s.t,s.b⟩ hlr.out HS0.out)
 unfold sc at HI
 have n0:=(ri_cu HI 0 _ rfl).1
 have n1:=(ri_cu HI 1 _ rfl).1
 have n2:=(ri_cu HI 2 _ rfl).1
 have n3:=(ri_cu HI 3 _ rfl).1
 have n4:=(ri_cu HI 4 _ rfl).1
 have n5:=(ri_cu HI 5 _ rfl).1
 by_cases ho:s.o.data.toList = []
 rotate_left
 · have zo:(s.o.toList == ([]:List UInt8)) = false:=by rw [toList_d]; exact beq_eq_false_iff_ne.2 ho
   have HV:Hid (R = ⟨#[]⟩):=lH (by rw [HRR.out,HTX.out,if_neg (fun h => by have h9:=h.2.1; rw [uo_get s] at h9; simp [ho] at h9)]; rfl)
   go_wp2_with fail
   go_ret
   rw [HV.out]
   exact ⟨rfl,HI.out.since⟩
 have zo:(s.o.toList == ([]:List UInt8)) = true:=by rw [toList_d,ho]; rfl
 have Ho:=lH ho
 clear ho
 by_cases hf:s.f = 0
 rotate_left
 · have zf:(s.f == 0) = false:=beq_eq_false_iff_ne.2 hf
   have HV:Hid (R = ⟨#[]⟩):=lH (by rw [HRR.out,HTX.out,if_neg (fun h => by have h9:=h.2.1; rw [uo_get s] at h9; simp [hf] at h9)]; rfl)
   go_wp2_with fail
   go_ret
   rw [HV.out]
   exact ⟨rfl,HI.out.since⟩
 have zf:(s.f == 0) = true:=by rw [hf]; rfl
 have Hf:=lH hf
 clear hf
 by_cases ht:s.t.data.toList = []
 rotate_left
 · have zt:(s.t.toList == ([]:List UInt8)) = false:=by rw [toList_d]; exact beq_eq_false_iff_ne.2 ht
   have HV:Hid (R = ⟨#[]⟩):=lH (by rw [HRR.out,HTX.out,if_neg (fun h => by have h9:=h.2.1; rw [uo_get s] at h9; simp [ht] at h9)]; rfl)
   go_wp2_with fail
   go_ret
   rw [HV.out]
   exact ⟨rfl,HI.out.since⟩
 have zt:(s.t.toList == ([]:List UInt8)) = true:=by rw [toList_d,ht]; rfl
 have Ht:=lH ht
 clear ht
 by_cases hb:s.b.data.toList = []
 rotate_left
 · have zb:(s.b.toList == ([]:List UInt8)) = false:=by rw [toList_d]; exact beq_eq_false_iff_ne.2 hb
   have HV:Hid (R = ⟨#[]⟩):=lH (by rw [HRR.out,HTX.out,if_neg (fun h => by have h9:=h.2.1; rw [uo_get s] at h9; simp [hb] at h9)]; rfl)
   go_wp2_with fail
   go_ret
   rw [HV.out]
   exact ⟨rfl,HI.out.since⟩
 have zb:(s.b.toList == ([]:List UInt8)) = true:=by rw [toList_d,hb]; rfl
 have Hb:=lH hb
 clear hb
 have HV:Hid (R = s.v ++ ⟨#[32]⟩ ++ s.n):=lH (by
   rw [HRR.out,HTX.out,if_pos ⟨by simp [okFN,hk],by rw [uo_get,Ho.out,Hf.out,Ht.out,Hb.out]; rfl,by rw [HLI.out]; show (s.v ++ ⟨#[32]⟩ ++ s.n).size <= _; rw [ByteArray.size_append,ByteArray.size_append,sp_size]; omega⟩,HLI.out,bs_l])
 go_wp2_with fail
 go_ret
 rw [HV.out]
 exact ⟨rfl,HI.out.since⟩
end Scr
namespace Scr
open Rw RwL Kind
open Rcd (hx)
theorem hexW_size (b:ByteArray) (h:b.size <= 40000) (H:ByteArray) (hH:H.data.toList = hexW b):H.size <= 80001:=by
 have e:H.size = (hexW b).length:=by rw [<- hH]; rfl
 rw [e]
 unfold hexW
 split
 · decide
 · have h8:=Dig.hexL_len b.data.toList
   have h7:b.data.toList.length = b.size:=rfl
   show (Dig.hexL b.data.toList).length <= _
   omega
set_option maxHeartbeats 8000000 in
theorem rtext_mov (s:St) (hv:s.v.data.toList = movL) (hn9:s.n.size <= 40000) (ho9:s.o.size <= 40000) (_hb9:s.b.size <= 40000) (w:World) (R:ByteArray) (HRR:Hid (R = bs (textV Rok s))):Calls Tryz.prog 10 #[.agg #[.string s.v,.string s.n,.string s.o,.int .i64 s.f,.string s.t,.string s.b]] w fun e w' => e = .returned (.string R) /\ Since w w':=by
 have HTX:=lH (text_at s [78,79] (by rw [hv]; rfl))
 have q1:(s.v.toList == ([112,117,116]:List UInt8)) = false:=by rw [toList_d,hv]; decide
 have q2:(s.v.toList == ([97,100,100]:List UInt8)) = false:=by rw [toList_d,hv]; decide
 have q3:(s.v.toList == ([103,101,116]:List UInt8)) = false:=by rw [toList_d,hv]; decide
 have q4:(s.v.toList == ([101,120,112,111,114,116]:List UInt8)) = false:=by rw [toList_d,hv]; decide
 have q5:(s.v.toList == ([100,114,111,112]:List UInt8)) = false:=by rw [toList_d,hv]; decide
 have q6:(s.v.toList == ([99,104,101,99,107]:List UInt8)) = false:=by rw [toList_d,hv]; decide
 have q7:(s.v.toList == ([109,111,118,101]:List UInt8)) = true:=by rw [toList_d,hv]; decide
 have c1:=rname_ret s.n
 have c2:=rname_ret s.o
 have HLI:Hid (lineW s [78,79] = ((⟨#[109,111,118,101,32]⟩:ByteArray) ++ s.n ++ ⟨#[32]⟩ ++ s.o).data.toList):=lH (by rw [app_list,app_list,app_list]; simp [lineW,Sp.joinC,wd,hv,movL])
 have HS0:=lH ((Since.refl w).alloc (.cells (sc s).toArray 23))
 have hlr:=lH ((rows_push (Rows.nil w w.heap.size) (Nat.le_refl _) (sc s) 23).own (RwL.lone 23 w.heap.size (sc s)) (by simp))
 go_enter Tryz.func10,Tryz.ntmps10
 go_wp2_with fail
 obtain ⟨wa,hwa⟩:∃ W,W = w.alloc (.cells (sc s).toArray 23):=⟨_,rfl⟩
 rw [show w.alloc (.cells #[.string s.v,.string s.n,.string s.o,.int .i64 s.f,.string s.t,.string s.b] 23) = wa from hwa.symm]
 rw [<- hwa] at hlr HS0
 clear hwa
 have hdr:Below wa.heap.size wa wa.drew:=⟨rfl,rfl,rfl,Nat.le_refl _,fun _ _ => rfl⟩
 replace hlr:=lH (Att.row_since hlr.out hdr)
 replace HS0:=lH (HS0.out.step hdr)
 clear hdr
 refine RegW.start (C6 w.heap.size s) 3 (by kernel_rfl) (c6_of hlr.out) (fun hHeld => ?_)
 obtain ⟨wb,hwb⟩:∃ W,W = wa.drew:=⟨_,rfl⟩
 rw [<- hwb] at hlr HS0 hHeld ⊢
 clear hwb
 refine RegW.take (i:=0) (v:=.agg #[.string s.v,.string s.n,.string s.o,.int .i64 s.f,.string s.t,.string s.b]) rfl (by kernel_rfl) (by kernel_rfl) (by kernel_rfl) (by kernel_rfl) (fun _ _ _ h => h) (Or.inl ⟨by kernel_rfl, ?_⟩) (by assumption) ?_
 · intro w hSw
   unfold C6 at hSw
   go_split_ands
   go_simp
   try with_reducible rfl
 try simp only [RegW.p]
 have hal:Since wb (wb.alloc (.cells #[.string ⟨#[]⟩,.string ⟨#[]⟩,.string ⟨#[]⟩,.int .i64 0,.string ⟨#[]⟩,.string ⟨#[]⟩] 23)):=(Since.refl wb).alloc _
 refine RegW.only (i:=1) rfl (by kernel_rfl) (fun K hK => ?_)
 go_simp
 refine hK.out _ _ (c6_of (Att.row_since hlr.out hal)) (fun hHeld2 => ?_)
 clear hK K hHeld hal
 try simp only [RegW.p]
 refine RegW.tk 2 rfl ?_
 try simp only [RegW.p]
 clear hHeld2
 refine RegW.last rfl (by kernel_rfl) (by kernel_rfl) ?_
 have HI:=lH (ri_new w wb w.heap.size s ⟨⟨#[]⟩,s.n,s.o,s.f,s.t,s.b⟩ hlr.out HS0.out)
 unfold sc at HI
 have m0:=ri_cs HI 0 _ rfl
 have m1:=ri_cs HI 1 _ rfl
 have m2:=ri_cs HI 2 _ rfl
 have m3:=ri_cs HI 3 _ rfl
 have m4:=ri_cs HI 4 _ rfl
 have m5:=ri_cs HI 5 _ rfl
 go_wp2_with fail
 refine (c1 _).mono ?_
 rintro _ w5 ⟨rfl,rfl⟩
 cases hk:nameO s.n.data.toList
 · have HV:Hid (R = ⟨#[]⟩):=lH (by rw [HRR.out,HTX.out,if_neg (fun h => by have h9:=h.1; simp [okFN,hk] at h9)]; rfl)
   go_wp2_with fail
   go_ret
   rw [HV.out]
   exact ⟨rfl,HI.out.since⟩
 go_wp2_with fail
 refine (c2 _).mono ?_
 rintro _ w5 ⟨rfl,rfl⟩
 cases hk2:nameO s.o.data.toList
 · have HV:Hid (R = ⟨#[]⟩):=lH (by rw [HRR.out,HTX.out,if_neg (fun h => by have h9:=h.1; simp [okFN,okFO,hk,hk2] at h9)]; rfl)
   go_wp2_with fail
   go_ret
   rw [HV.out]
   exact ⟨rfl,HI.out.since⟩
 have hnz:s.n.size <= 100:=name_size hk
 have hoz:s.o.size <= 100:=name_size hk2
 have ym:(⟨#[109,111,118,101,32]⟩:ByteArray).size = 5:=rfl
 have y1:¬ 9223372036854775807 < (⟨#[109,111,118,101,32]⟩:ByteArray).size + s.n.size:=by rw [ym]; omega
 have y2:¬ 9223372036854775807 < ((⟨#[109,111,118,101,32]⟩:ByteArray) ++ s.n).size + (⟨#[32]⟩:ByteArray).size:=by rw [ByteArray.size_append,ym,sp_size]; omega
 have y3:¬ 9223372036854775807 < ((⟨#[109,111,118,101,32]⟩:ByteArray) ++ s.n ++ ⟨#[32]⟩).size + s.o.size:=by rw [ByteArray.size_append,ByteArray.size_append,ym,sp_size]; omega
 clear HI
 have HI:=lH (ri_new w wb w.heap.size s ⟨⟨#[]⟩,⟨#[]⟩,⟨#[]⟩,s.f,s.t,s.b⟩ hlr.out HS0.out)
 unfold sc at HI
 have n0:=(ri_cu HI 0 _ rfl).1
 have n1:=(ri_cu HI 1 _ rfl).1
 have n2:=(ri_cu HI 2 _ rfl).1
 have n3:=(ri_cu HI 3 _ rfl).1
 have n4:=(ri_cu HI 4 _ rfl).1
 have n5:=(ri_cu HI 5 _ rfl).1
 by_cases hf:s.f = 0
 rotate_left
 · have zf:(s.f == 0) = false:=beq_eq_false_iff_ne.2 hf
   have HV:Hid (R = ⟨#[]⟩):=lH (by rw [HRR.out,HTX.out,if_neg (fun h => by have h9:=h.2.1; rw [uo_mov s] at h9; simp [hf] at h9)]; rfl)
   go_wp2_with fail
   go_ret
   rw [HV.out]
   exact ⟨rfl,HI.out.since⟩
 have zf:(s.f == 0) = true:=by rw [hf]; rfl
 have Hf:=lH hf
 clear hf
 by_cases ht:s.t.data.toList = []
 rotate_left
 · have zt:(s.t.toList == ([]:List UInt8)) = false:=by rw [toList_d]; exact beq_eq_false_iff_ne.2 ht
   have HV:Hid (R = ⟨#[]⟩):=lH (by rw [HRR.out,HTX.out,if_neg (fun h => by have h9:=h.2.1; rw [uo_mov s] at h9; simp [ht] at h9)]; rfl)
   go_wp2_with fail
   go_ret
   rw [HV.out]
   exact ⟨rfl,HI.out.since⟩
 have zt:(s.t.toList == ([]:List UInt8)) = true:=by rw [toList_d,ht]; rfl
 have Ht:=lH ht
 clear ht
 by_cases hb:s.b.data.toList = []
 rotate_left
 · have zb:(s.b.toList == ([]:List UInt8)) = false:=by rw [toList_d]; exact beq_eq_false_iff_ne.2 hb
   have HV:Hid (R = ⟨#[]⟩):=lH (by rw [HRR.out,HTX.out,if_neg (fun h => by have h9:=h.2.1; rw [uo_mov s] at h9; simp [hb] at h9)]; rfl)
   go_wp2_with fail
   go_ret
   rw [HV.out]
   exact ⟨rfl,HI.out.since⟩
 have zb:(s.b.toList == ([]:List UInt8)) = true:=by rw [toList_d,hb]; rfl
 have Hb:=lH hb
 clear hb
 have HV:Hid (R = (⟨#[109,111,118,101,32]⟩:ByteArray) ++ s.n ++ ⟨#[32]⟩ ++ s.o):=lH (by
   rw [HRR.out,HTX.out,if_pos ⟨by simp [okFN,okFO,hk,hk2],by rw [uo_mov,Hf.out,Ht.out,Hb.out]; rfl,by rw [HLI.out]; show ((⟨#[109,111,118,101,32]⟩:ByteArray) ++ s.n ++ ⟨#[32]⟩ ++ s.o).size <= _; rw [ByteArray.size_append,ByteArray.size_append,ByteArray.size_append,ym,sp_size]; omega⟩,HLI.out,bs_l])
 go_wp2_with fail
 go_ret
 rw [HV.out]
 exact ⟨rfl,HI.out.since⟩
set_option maxHeartbeats 8000000 in
theorem rtext_rek (s:St) (hv:s.v.data.toList = rekL) (_hn9:s.n.size <= 40000) (_ho9:s.o.size <= 40000) (hb9:s.b.size <= 40000) (w:World) (R:ByteArray) (HRR:Hid (R = bs (textV Rok s))):Calls Tryz.prog 10 #[.agg #[.string s.v,.string s.n,.string s.o,.int .i64 s.f,.string s.t,.string s.b]] w fun e w' => e = .returned (.string R) /\ Since w w':=by
 have HTX:=lH (text_at s [66] (by rw [hv]; rfl))
 have q1:(s.v.toList == ([112,117,116]:List UInt8)) = false:=by rw [toList_d,hv]; decide
 have q2:(s.v.toList == ([97,100,100]:List UInt8)) = false:=by rw [toList_d,hv]; decide
 have q3:(s.v.toList == ([103,101,116]:List UInt8)) = false:=by rw [toList_d,hv]; decide
 have q4:(s.v.toList == ([101,120,112,111,114,116]:List UInt8)) = false:=by rw [toList_d,hv]; decide
 have q5:(s.v.toList == ([100,114,111,112]:List UInt8)) = false:=by rw [toList_d,hv]; decide
 have q6:(s.v.toList == ([99,104,101,99,107]:List UInt8)) = false:=by rw [toList_d,hv]; decide
 have q7:(s.v.toList == ([109,111,118,101]:List UInt8)) = false:=by rw [toList_d,hv]; decide
 have q8:(s.v.toList == ([114,101,107,101,121]:List UInt8)) = true:=by rw [toList_d,hv]; decide
 have c1:=rhex_mk s.b (by omega)
 obtain ⟨H,hH⟩:∃ H,H = bs (hexW s.b):=⟨_,rfl⟩
 rw [<- hH] at c1
 have hHl:H.data.toList = hexW s.b:=by rw [hH,list_bs]
 have hHz:H.size <= 80001:=hexW_size s.b hb9 H hHl
 have HLI:Hid (lineW s [66] = ((⟨#[114,101,107,101,121,32]⟩:ByteArray) ++ H).data.toList):=lH (by rw [app_list,hHl]; simp [lineW,Sp.joinC,wd,hv,rekL])
 have ym:(⟨#[114,101,107,101,121,32]⟩:ByteArray).size = 6:=rfl
 have y1:¬ 9223372036854775807 < (⟨#[114,101,107,101,121,32]⟩:ByteArray).size + H.size:=by rw [ym]; omega
 clear hH hHl
 have HS0:=lH ((Since.refl w).alloc (.cells (sc s).toArray 23))
 have hlr:=lH ((rows_push (Rows.nil w w.heap.size) (Nat.le_refl _) (sc s) 23).own (RwL.lone 23 w.heap.size (sc s)) (by simp))
 go_enter Tryz.func10,Tryz.ntmps10
 go_wp2_with fail
 obtain ⟨wa,hwa⟩:∃ W,W = w.alloc (.cells (sc s).toArray 23):=⟨_,rfl⟩
 rw [show w.alloc (.cells #[.string s.v,.string s.n,.string s.o,.int .i64 s.f,.string s.t,.string s.b] 23) = wa from hwa.symm]
 rw [<- hwa] at hlr HS0
 clear hwa
 have hdr:Below wa.heap.size wa wa.drew:=⟨rfl,rfl,rfl,Nat.le_refl _,fun _ _ => rfl⟩
 replace hlr:=lH (Att.row_since hlr.out hdr)
 replace HS0:=lH (HS0.out.step hdr)
 clear hdr
 refine RegW.start (C6 w.heap.size s) 3 (by kernel_rfl) (c6_of hlr.out) (fun hHeld => ?_)
 obtain ⟨wb,hwb⟩:∃ W,W = wa.drew:=⟨_,rfl⟩
 rw [<- hwb] at hlr HS0 hHeld ⊢
 clear hwb
 refine RegW.take (i:=0) (v:=.agg #[.string s.v,.string s.n,.string s.o,.int .i64 s.f,.string s.t,.string s.b]) rfl (by kernel_rfl) (by kernel_rfl) (by kernel_rfl) (by kernel_rfl) (fun _ _ _ h => h) (Or.inl ⟨by kernel_rfl, ?_⟩) (by assumption) ?_
 · intro w hSw
   unfold C6 at hSw
   go_split_ands
   go_simp
   try with_reducible rfl
 try simp only [RegW.p]
 have hal:Since wb (wb.alloc (.cells #[.string ⟨#[]⟩,.string ⟨#[]⟩,.string ⟨#[]⟩,.int .i64 0,.string ⟨#[]⟩,.string ⟨#[]⟩] 23)):=(Since.refl wb).alloc _
 refine RegW.only (i:=1) rfl (by kernel_rfl) (fun K hK => ?_)
 go_simp
 refine hK.out _ _ (c6_of (Att.row_since hlr.out hal)) (fun hHeld2 => ?_)
 clear hK K hHeld hal
 try simp only [RegW.p]
 refine RegW.tk 2 rfl ?_
 try simp only [RegW.p]
 clear hHeld2
 refine RegW.last rfl (by kernel_rfl) (by kernel_rfl) ?_
 have HI:=lH (ri_new w wb w.heap.size s ⟨⟨#[]⟩,s.n,s.o,s.f,s.t,s.b⟩ hlr.out HS0.out)
 unfold sc at HI
 have m0:=ri_cs HI 0 _ rfl
 have m1:=ri_cs HI 1 _ rfl
 have m2:=ri_cs HI 2 _ rfl
 have m3:=ri_cs HI 3 _ rfl
 have m4:=ri_cs HI 4 _ rfl
 have m5:=ri_cs HI 5 _ rfl
 by_cases hb:s.b.data.toList = []
 · have zb:(s.b.toList == ([]:List UInt8)) = true:=by rw [toList_d,hb]; rfl
   have HV:Hid (R = ⟨#[]⟩):=lH (by rw [HRR.out,HTX.out,if_neg (fun h => by have h9:=h.1; simp [okFB,hb] at h9)]; rfl)
   clear hb
   go_wp2_with fail
   go_ret
   rw [HV.out]
   exact ⟨rfl,HI.out.since⟩
 have zb:(s.b.toList == ([]:List UInt8)) = false:=by rw [toList_d]; exact beq_eq_false_iff_ne.2 hb
 have HBN:=lH hb
 clear hb
 go_wp2_with fail
 refine c1.calls0 ?_
 intro w5 h5
 replace HI:=ri_step h5 HI
 clear h5 m0 m1 m2 m3 m4 m5
 have k5:=ri_cu HI 5 _ rfl
 replace HI:=ri_set HI 5 (by decide) (.string ⟨#[]⟩) ⟨⟨#[]⟩,s.n,s.o,s.f,s.t,⟨#[]⟩⟩ rfl
 have n0:=(ri_cu HI 0 _ rfl).1
 have n1:=(ri_cu HI 1 _ rfl).1
 have n2:=(ri_cu HI 2 _ rfl).1
 have n3:=(ri_cu HI 3 _ rfl).1
 have n4:=(ri_cu HI 4 _ rfl).1
 have n5:=(ri_cu HI 5 _ rfl).1
 by_cases hn:s.n.data.toList = []
 rotate_left
 · have zn:(s.n.toList == ([]:List UInt8)) = false:=by rw [toList_d]; exact beq_eq_false_iff_ne.2 hn
   have HV:Hid (R = ⟨#[]⟩):=lH (by rw [HRR.out,HTX.out,if_neg (fun h => by have h9:=h.2.1; rw [uo_rek s] at h9; simp [hn] at h9)]; rfl)
   go_wp2_with fail
   go_ret
   rw [HV.out]
   exact ⟨rfl,HI.out.since⟩
 have zn:(s.n.toList == ([]:List UInt8)) = true:=by rw [toList_d,hn]; rfl
 have Hn:=lH hn
 clear hn
 by_cases ho:s.o.data.toList = []
 rotate_left
 · have zo:(s.o.toList == ([]:List UInt8)) = false:=by rw [toList_d]; exact beq_eq_false_iff_ne.2 ho
   have HV:Hid (R = ⟨#[]⟩):=lH (by rw [HRR.out,HTX.out,if_neg (fun h => by have h9:=h.2.1; rw [uo_rek s] at h9; simp [ho] at h9)]; rfl)
   go_wp2_with fail
   go_ret
   rw [HV.out]
   exact ⟨rfl,HI.out.since⟩
 have zo:(s.o.toList == ([]:List UInt8)) = true:=by rw [toList_d,ho]; rfl
 have Ho:=lH ho
 clear ho
 by_cases hf:s.f = 0
 rotate_left
 · have zf:(s.f == 0) = false:=beq_eq_false_iff_ne.2 hf
   have HV:Hid (R = ⟨#[]⟩):=lH (by rw [HRR.out,HTX.out,if_neg (fun h => by have h9:=h.2.1; rw [uo_rek s] at h9; simp [hf] at h9)]; rfl)
   go_wp2_with fail
   go_ret
   rw [HV.out]
   exact ⟨rfl,HI.out.since⟩
 have zf:(s.f == 0) = true:=by rw [hf]; rfl
 have Hf:=lH hf
 clear hf
 by_cases ht:s.t.data.toList = []
 rotate_left
 · have zt:(s.t.toList == ([]:List UInt8)) = false:=by rw [toList_d]; exact beq_eq_false_iff_ne.2 ht
   have HV:Hid (R = ⟨#[]⟩):=lH (by rw [HRR.out,HTX.out,if_neg (fun h => by have h9:=h.2.1; rw [uo_rek s] at h9; simp [ht] at h9)]; rfl)
   go_wp2_with fail
   go_ret
   rw [HV.out]
   exact ⟨rfl,HI.out.since⟩
 have zt:(s.t.toList == ([]:List UInt8)) = true:=by rw [toList_d,ht]; rfl
 have Ht:=lH ht
 clear ht
 by_cases hz:6 + H.size <= 40000
 · have t1:decide ((40000:Int) < (((⟨#[114,101,107,101,121,32]⟩:ByteArray) ++ H).size:Int)) = false:=decide_eq_false (by rw [ByteArray.size_append,ym]; omega)
   have HV:Hid (R = (⟨#[114,101,107,101,121,32]⟩:ByteArray) ++ H):=lH (by
     rw [HRR.out,HTX.out,if_pos ⟨by simp [okFB,HBN.out],by rw [uo_rek,Hn.out,Ho.out,Hf.out,Ht.out]; rfl,by rw [HLI.out]; show ((⟨#[114,101,107,101,121,32]⟩:ByteArray) ++ H).size <= _; rw [ByteArray.size_append,ym]; omega⟩,HLI.out,bs_l])
   go_wp2_with fail
   go_ret
   rw [HV.out]
   exact ⟨rfl,HI.out.since⟩
 · have t1:decide ((40000:Int) < (((⟨#[114,101,107,101,121,32]⟩:ByteArray) ++ H).size:Int)) = true:=decide_eq_true (by rw [ByteArray.size_append,ym]; omega)
   have HV:Hid (R = ⟨#[]⟩):=lH (by
     rw [HRR.out,HTX.out,if_neg (fun h => hz (by
       have h9:=h.2.2
       rw [HLI.out] at h9
       have h8:((⟨#[114,101,107,101,121,32]⟩:ByteArray) ++ H).size <= 40000:=h9
       rw [ByteArray.size_append,ym] at h8
       exact h8))]
     rfl)
   go_wp2_with fail
   go_ret
   rw [HV.out]
   exact ⟨rfl,HI.out.since⟩
set_option maxHeartbeats 8000000 in
theorem rtext_none (s:St) (hv1:s.v.data.toList ≠ putL) (hv2:s.v.data.toList ≠ addL) (hv3:s.v.data.toList ≠ getL) (hv4:s.v.data.toList ≠ expL) (hv5:s.v.data.toList ≠ droL) (hv6:s.v.data.toList ≠ cheL) (hv7:s.v.data.toList ≠ movL) (hv8:s.v.data.toList ≠ rekL) (hv9:s.v.data.toList ≠ lisL) (w:World) (R:ByteArray) (HRR:Hid (R = bs (textV Rok s))):Calls Tryz.prog 10 #[.agg #[.string s.v,.string s.n,.string s.o,.int .i64 s.f,.string s.t,.string s.b]] w fun e w' => e = .returned (.string R) /\ Since w w':=by
 have q1:(s.v.toList == ([112,117,116]:List UInt8)) = false:=by rw [toList_d]; exact beq_eq_false_iff_ne.2 hv1
 have q2:(s.v.toList == ([97,100,100]:List UInt8)) = false:=by rw [toList_d]; exact beq_eq_false_iff_ne.2 hv2
 have q3:(s.v.toList == ([103,101,116]:List UInt8)) = false:=by rw [toList_d]; exact beq_eq_false_iff_ne.2 hv3
 have q4:(s.v.toList == ([101,120,112,111,114,116]:List UInt8)) = false:=by rw [toList_d]; exact beq_eq_false_iff_ne.2 hv4
 have q5:(s.v.toList == ([100,114,111,112]:List UInt8)) = false:=by rw [toList_d]; exact beq_eq_false_iff_ne.2 hv5
 have q6:(s.v.toList == ([99,104,101,99,107]:List UInt8)) = false:=by rw [toList_d]; exact beq_eq_false_iff_ne.2 hv6
 have q7:(s.v.toList == ([109,111,118,101]:List UInt8)) = false:=by rw [toList_d]; exact beq_eq_false_iff_ne.2 hv7
 have q8:(s.v.toList == ([114,101,107,101,121]:List UInt8)) = false:=by rw [toList_d]; exact beq_eq_false_iff_ne.2 hv8
 have q9:(s.v.toList == ([108,105,115,116]:List UInt8)) = false:=by rw [toList_d]; exact beq_eq_false_iff_ne.2 hv9
 have HV:Hid (R = ⟨#[]⟩):=lH (by
   rw [HRR.out]
   unfold textV layV
   rw [if_neg hv1,if_neg hv2,if_neg hv3,if_neg hv4,if_neg hv5,if_neg hv6,if_neg hv7,if_neg hv8,if_neg hv9]
   rfl)
 clear hv1 hv2 hv3 hv4 hv5 hv6 hv7 hv8 hv9
 have HS0:=lH ((Since.refl w).alloc (.cells (sc s).toArray 23))
 have hlr:=lH ((rows_push (Rows.nil w w.heap.size) (Nat.le_refl _) (sc s) 23).own (RwL.lone 23 w.heap.size (sc s)) (by simp))
 go_enter Tryz.func10,Tryz.ntmps10
 go_wp2_with fail
 obtain ⟨wa,hwa⟩:∃ W,W = w.alloc (.cells (sc s).toArray 23):=⟨_,rfl⟩
 rw [show w.alloc (.cells #[.string s.v,.string s.n,.string s.o,.int .i64 s.f,.string s.t,.string s.b] 23) = wa from hwa.symm]
 rw [<- hwa] at hlr HS0
 clear hwa
 have hdr:Below wa.heap.size wa wa.drew:=⟨rfl,rfl,rfl,Nat.le_refl _,fun _ _ => rfl⟩
 replace hlr:=lH (Att.row_since hlr.out hdr)
 replace HS0:=lH (HS0.out.step hdr)
 clear hdr
 refine RegW.start (C6 w.heap.size s) 3 (by kernel_rfl) (c6_of hlr.out) (fun hHeld => ?_)
 obtain ⟨wb,hwb⟩:∃ W,W = wa.drew:=⟨_,rfl⟩
 rw [<- hwb] at hlr HS0 hHeld ⊢
 clear hwb
 refine RegW.take (i:=0) (v:=.agg #[.string s.v,.string s.n,.string s.o,.int .i64 s.f,.string s.t,.string s.b]) rfl (by kernel_rfl) (by kernel_rfl) (by kernel_rfl) (by kernel_rfl) (fun _ _ _ h => h) (Or.inl ⟨by kernel_rfl, ?_⟩) (by assumption) ?_
 · intro w hSw
   unfold C6 at hSw
   go_split_ands
   go_simp
   try with_reducible rfl
 try simp only [RegW.p]
 have hal:Since wb (wb.alloc (.cells #[.string ⟨#[]⟩,.string ⟨#[]⟩,.string ⟨#[]⟩,.int .i64 0,.string ⟨#[]⟩,.string ⟨#[]⟩] 23)):=(Since.refl wb).alloc _
 refine RegW.only (i:=1) rfl (by kernel_rfl) (fun K hK => ?_)
 go_simp
 refine hK.out _ _ (c6_of (Att.row_since hlr.out hal)) (fun hHeld2 => ?_)
 clear hK K hHeld hal
 try simp only [RegW.p]
 refine RegW.tk 2 rfl ?_
 try simp only [RegW.p]
 clear hHeld2
 refine RegW.last rfl (by kernel_rfl) (by kernel_rfl) ?_
 have HI:=lH (ri_new w wb w.heap.size s ⟨⟨#[]⟩,s.n,s.o,s.f,s.t,s.b⟩ hlr.out HS0.out)
 unfold sc at HI
 have m0:=ri_cs HI 0 _ rfl
 have m1:=ri_cs HI 1 _ rfl
 have m2:=ri_cs HI 2 _ rfl
 have m3:=ri_cs HI 3 _ rfl
 have m4:=ri_cs HI 4 _ rfl
 have m5:=ri_cs HI 5 _ rfl
 have n0:=(ri_cu HI 0 _ rfl).1
 have n1:=(ri_cu HI 1 _ rfl).1
 have n2:=(ri_cu HI 2 _ rfl).1
 have n3:=(ri_cu HI 3 _ rfl).1
 have n4:=(ri_cu HI 4 _ rfl).1
 have n5:=(ri_cu HI 5 _ rfl).1
 by_cases hn:s.n.data.toList = []
 rotate_left
 · have zn:(s.n.toList == ([]:List UInt8)) = false:=by rw [toList_d]; exact beq_eq_false_iff_ne.2 hn
   go_wp2_with fail
   go_ret
   rw [HV.out]
   exact ⟨rfl,HI.out.since⟩
 have zn:(s.n.toList == ([]:List UInt8)) = true:=by rw [toList_d,hn]; rfl
 clear hn
 by_cases ho:s.o.data.toList = []
 rotate_left
 · have zo:(s.o.toList == ([]:List UInt8)) = false:=by rw [toList_d]; exact beq_eq_false_iff_ne.2 ho
   go_wp2_with fail
   go_ret
   rw [HV.out]
   exact ⟨rfl,HI.out.since⟩
 have zo:(s.o.toList == ([]:List UInt8)) = true:=by rw [toList_d,ho]; rfl
 clear ho
 by_cases hf:s.f = 0
 rotate_left
 · have zf:(s.f == 0) = false:=beq_eq_false_iff_ne.2 hf
   go_wp2_with fail
   go_ret
   rw [HV.out]
   exact ⟨rfl,HI.out.since⟩
 have zf:(s.f == 0) = true:=by rw [hf]; rfl
 clear hf
 by_cases ht:s.t.data.toList = []
 rotate_left
 · have zt:(s.t.toList == ([]:List UInt8)) = false:=by rw [toList_d]; exact beq_eq_false_iff_ne.2 ht
   go_wp2_with fail
   go_ret
   rw [HV.out]
   exact ⟨rfl,HI.out.since⟩
 have zt:(s.t.toList == ([]:List UInt8)) = true:=by rw [toList_d,ht]; rfl
 clear ht
 by_cases hb:s.b.data.toList = []
 rotate_left
 · have zb:(s.b.toList == ([]:List UInt8)) = false:=by rw [toList_d]; exact beq_eq_false_iff_ne.2 hb
   go_wp2_with fail
   go_ret
   rw [HV.out]
   exact ⟨rfl,HI.out.since⟩
 have zb:(s.b.toList == ([]:List UInt8)) = true:=by rw [toList_d,hb]; rfl
 clear hb
 go_wp2_with fail
 go_ret
 rw [HV.out]
 exact ⟨rfl,HI.out.since⟩
end Scr
end Go.Proofs.YtcdjfmlanicjlaaGreatDoor
