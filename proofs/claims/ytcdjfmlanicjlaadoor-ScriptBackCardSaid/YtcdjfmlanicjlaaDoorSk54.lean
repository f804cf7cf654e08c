import Derived.Test.YtcdjfmlanicjlaaDoorSk53
set_option maxRecDepth 100000
namespace Go.Proofs.YtcdjfmlanicjlaaDoor
open Go.RowKit
namespace Scr
open Rw RwL Kind
theorem results_t_cell {P:Program} {fn:Func} {p u:Tmp} {ty:TypeId} (h:fn.results = #[.tmp u,.cell p ty]) (tmps:Array Value) (w:World) (g:Nat) (t:TypeId) (cs:Array Value) (fr:Nat × Nat) (d:TypeDesc) (v:Value)
   (hp:tmps.getD p undef = .pointer (some ⟨g,0,none⟩)) (hv:tmps.getD u undef = v) (hg:w.heap[g]? = some (.cells cs t fr))
   (hu:P.underlying ty = some d) (hd:(match d with | .struct _ | .array _ _ => true | _ => false) = true) (hi:(P.info? ty).map (·.size) = some cs.size) :
   (results fn tmps).run P w = .ok (.tuple #[v,.agg cs]) w:=by
 subst hv
 have hp':tmps[p]?.getD undef = .pointer (some ⟨g,0,none⟩):=by simpa using hp
 simp [results,h,hp',asAddr,run_loadVar_row w g t ty cs fr d hg hu hd hi]
theorem f2_info (a b:Value):(Tryd.prog.info? 36).map (·.size) = some (#[a,b]:Array Value).size:=by kernel_rfl
theorem f2_one (a b:Int):(#[.int .i64 a,.int .i64 b]:Array Value).all (·.oneCell') = true:=by
 rw [Array.all_eq_true]
 intro j hj
 have hj2:j < 2:=hj
 match j,hj2 with
 | 0,_ | 1,_ => rfl
theorem row_cell {W:World} {g:Nat} {C:Array Value} {t:TypeId} (h:W.heap[g]? = some (.cells C t (0,0))) (i:Nat) (v:Value) (hv:C[i]? = some v):W.cell? ⟨g,i,none⟩ = some v:=by
 unfold World.cell?
 rw [h]
 simpa using hv
def StepsS (w:World) (v:Value) (l:List St):Prop:=SlR w 6 v l.length (l.flatMap sc)
def LinR (f:Nat) (t:ByteArray) (R:List St × Int × Int):Prop:=∀ w,Tab2 w -> Calls Tryd.prog f #[.string t] w fun e w' => ∃ V,e = .returned (.tuple #[V,.agg #[.int .i64 R.2.1,.int .i64 R.2.2]]) /\ StepsS w' V R.1 /\ Since w w'
theorem count_ret (t:ByteArray) (n:Nat) (h:(Sp.pcs 10 t.data.toList).length = n + 1):Ret 21 #[.string t,.string ⟨#[10]⟩] (.int .i64 (n:Int)):=by
 intro w
 refine (Tryd.strings_Count_one t 10 w).mono ?_
 rintro _ _ ⟨rfl,rfl⟩
 have e:Lib.countByte t.data.toList 10 = n:=by
   have h1:=count_pcs 10 t.data.toList
   unfold Lib.countByte
   omega
 rw [e]
 exact ⟨rfl,rfl⟩
theorem suf_ret (t:ByteArray) (hm:t.size <= 1000000) (b:Bool) (h:b = Lib.hasSuffix t.data.toList [10]):Ret 22 #[.string t,.string ⟨#[10]⟩] (.bool b):=by
 intro w
 refine (Tryd.strings_HasSuffix t ⟨#[10]⟩ w (by omega)).mono ?_
 rintro _ _ ⟨rfl,rfl⟩
 rw [h]
 exact ⟨rfl,rfl⟩
set_option maxHeartbeats 16000000 in
theorem lines_k (t:ByteArray) (hm:t.size <= 1000000):LinR 9 t (linV Rok candP t.data.toList):=by
 intro w hT
 have HT:=lH hT
 obtain ⟨R,hR⟩:∃ R,R = linV Rok candP t.data.toList:=⟨_,rfl⟩
 rw [<- hR]
 have HR:=lH hR
 obtain ⟨n,hn⟩:∃ n,(Sp.pcs 10 t.data.toList).length = n + 1:=⟨(Sp.pcs 10 t.data.toList).length - 1,by
   have:0 < (Sp.pcs 10 t.data.toList).length:=List.length_pos_iff.2 (Sp.pcs_ne 10 _)
   omega⟩
 have HN:=lH hn
 have hnb:n <= 1000000:=by
   have h1:=count_pcs 10 t.data.toList
   have h2:=List.count_le_length (a:=(10:UInt8)) (l:=t.data.toList)
   have h3:t.data.toList.length = t.size:=rfl
   omega
 have c1:=count_ret t n hn
 have hl:=last_pcs 10 t.data.toList
 have HM:=lH hm
 have HI:=lH (ni_new w)
 have hg:=lH (ni_res HI)
 by_cases hlast:(Sp.pcs 10 t.data.toList).getLastD [] ≠ []
 · have h1:=hl.1 hlast
   have q0:(t.toList == ([]:List UInt8)) = false:=by rw [toList_d]; exact beq_eq_false_iff_ne.2 h1.1
   have c2:=suf_ret t hm false (by
     unfold Lib.hasSuffix
     cases h9:List.isSuffixOf [10] t.data.toList
     · rfl
     · exact absurd (List.isSuffixOf_iff_suffix.1 h9) h1.2)
   have HV:Hid (R = ([],5,(n:Int) + 1)):=lH (by
     rw [HR.out]
     unfold linV
     rw [if_pos hlast,HN.out]
     rfl)
   have HSL:∀ W,Hid (StepsS W (.slice none 0 0) []):=fun W => lH (SlR.nil _ _)
   clear hn hl hlast h1 hR hT hm
   go_enter Tryd.func9,Tryd.ntmps9
   go_wp2_with fail
   obtain ⟨w1,hw1⟩:∃ W,W = w.alloc (.cells #[.int .i64 0,.int .i64 0] 36):=⟨_,rfl⟩
   rw [<- hw1] at HI hg ⊢
   clear hw1
   refine (c1).calls ?_
   go_wp2_with fail
   refine (c2 _).mono ?_
   rintro _ w3 ⟨rfl,rfl⟩
   go_wp2_with (refine RwL.at_store (ty:=36) rfl ?_; refine wpList_store_row rfl 36 _ _ rfl w.heap.size #[.int .i64 5,.int .i64 ((n:Int) + 1)] (by rfl) (by rfl) _ _ hg.out (f2_info _ _) rfl (f2_one _ _) ?_)
   exact bodyPost_ret (v:=.tuple #[(.slice none 0 0),.agg #[.int .i64 5,.int .i64 ((n:Int) + 1)]]) (results_t_cell Tryd.results9 _ _ _ _ _ _ _ _ rfl rfl (setRow_heap _ _ _ _ _ _ hg.out) Tryd.underlying36 rfl (f2_info _ _)) rfl ⟨_,by rw [HV.out],by rw [HV.out]; exact (HSL _).out,below_setRow HI.out.since (Nat.le_refl _) _⟩
 have hlast0:(Sp.pcs 10 t.data.toList).getLastD [] = []:=Classical.byContradiction fun h9 => hlast h9
 by_cases h200:200 < n
 · have HV:Hid (R = ([],17,201)):=lH (by
     rw [HR.out]
     unfold linV
     rw [if_neg hlast,HN.out,if_pos (by omega)])
   have HSL:∀ W,Hid (StepsS W (.slice none 0 0) []):=fun W => lH (SlR.nil _ _)
   have q0:(t.toList == ([]:List UInt8)) = false:=by
     rw [toList_d]
     refine beq_eq_false_iff_ne.2 (fun h9 => ?_)
     rw [h9] at hn
     have:(1:Nat) = n + 1:=hn
     omega
   have c2:=suf_ret t hm true (by
     unfold Lib.hasSuffix
     cases h9:List.isSuffixOf [10] t.data.toList
     · exfalso
       refine hlast (hl.2 ⟨fun h8 => ?_,fun h8 => by rw [List.isSuffixOf_iff_suffix.2 h8] at h9; cases h9⟩)
       rw [toList_d,h8] at q0
       exact absurd q0 (by decide)
     · rfl)
   clear hn hl hlast hlast0 hR hT hm
   go_enter Tryd.func9,Tryd.ntmps9
   go_wp2_with fail
   obtain ⟨w1,hw1⟩:∃ W,W = w.alloc (.cells #[.int .i64 0,.int .i64 0] 36):=⟨_,rfl⟩
   rw [<- hw1] at HI hg ⊢
   clear hw1
   refine (c1).calls ?_
   go_wp2_with fail
   refine (c2 _).mono ?_
   rintro _ w3 ⟨rfl,rfl⟩
   go_wp2_with (refine RwL.at_store (ty:=36) rfl ?_; refine wpList_store_row rfl 36 _ _ rfl w.heap.size #[.int .i64 17,.int .i64 201] (by rfl) (by rfl) _ _ hg.out (f2_info _ _) rfl (f2_one _ _) ?_)
   exact bodyPost_ret (v:=.tuple #[(.slice none 0 0),.agg #[.int .i64 17,.int .i64 201]]) (results_t_cell Tryd.results9 _ _ _ _ _ _ _ _ rfl rfl (setRow_heap _ _ _ _ _ _ hg.out) Tryd.underlying36 rfl (f2_info _ _)) rfl ⟨_,by rw [HV.out],by rw [HV.out]; exact (HSL _).out,below_setRow HI.out.since (Nat.le_refl _) _⟩
 have HST:Hid (R = stepsF Rok candP 0 (Sp.pcs 10 t.data.toList).dropLast []):=lH (by
   rw [HR.out]
   unfold linV
   rw [if_neg hlast,HN.out,if_neg (by omega)])
 by_cases ht0:t.data.toList = []
 · have q0:(t.toList == ([]:List UInt8)) = true:=by rw [toList_d,ht0]; rfl
   clear hl hlast hlast0 hR hT hm ht0 hn
   go_enter Tryd.func9,Tryd.ntmps9
   go_wp2_with fail
   obtain ⟨w1,hw1⟩:∃ W,W = w.alloc (.cells #[.int .i64 0,.int .i64 0] 36):=⟨_,rfl⟩
   rw [<- hw1] at HI hg ⊢
   clear hw1
   refine (c1).calls ?_
   go_wp2_with fail
   go_wp2_with fail
   go_loopw [0,5,28] (fun a s i wr => ∃ (j:Nat) (T:ByteArray) (acc:List St) (V:Value),j <= n /\ i = .int .i64 (j:Int) /\ a = .string T /\ s = V /\ Hid ((Sp.pcs 10 T.data.toList).length = n + 1 - j) /\ Hid (R = stepsF Rok candP j (Sp.pcs 10 T.data.toList).dropLast acc) /\ Hid (acc.length = j) /\ Hid (T.size <= t.size) /\ Hid (NI w w.heap.size V acc wr)) (fun _ _ i _ => n - (intOf i).toNat)
   case atStart => exact ⟨0,t,[],.slice none 0 0,Nat.zero_le _,rfl,rfl,rfl,HN,HST,lH rfl,lH (Nat.le_refl _),HI⟩
   case round =>
     clear HI HST hg
     obtain ⟨j,T,acc,V,hj,rfl,rfl,rfl,HPN,HST,HAL,HTZ,HI⟩:=hrel
     obtain ⟨A6,c6,hV6⟩:=RwL.own_any (ni_own HI)
     subst hV6
     by_cases hlt:j < n
     · obtain ⟨p,P,hpP⟩:∃ p P,Sp.pcs 10 T.data.toList = p :: P:=by
         cases hp:Sp.pcs 10 T.data.toList with
         | nil => exact absurd hp (Sp.pcs_ne 10 _)
         | cons p P => exact ⟨p,P,rfl⟩
       have hPl:P.length = n - j:=by
         have h9:=HPN.out
         rw [hpP,List.length_cons] at h9
         omega
       have hPn:P ≠ []:=fun h9 => by rw [h9] at hPl; simp at hPl; omega
       obtain ⟨B,c3,hB,hBz,hpz⟩:=line_cut T (by have:=HTZ.out; have:=HM.out; omega) p P hPn hpP
       have hst:R = stepsF Rok candP j (p :: P.dropLast) acc:=by
         rw [HST.out,hpP,List.dropLast_cons_of_ne_nil hPn]
       obtain ⟨q,hq⟩:∃ q,q = bs p:=⟨_,rfl⟩
       have hql:q.data.toList = p:=by rw [hq,list_bs]
       have hqz:q.size <= 1000000:=by
         have h1:q.size = p.length:=by rw [<- hql]; rfl
         have:=HTZ.out
         have:=HM.out
         omega
       have c4:=pars_k q hqz
       rw [hql] at c4
       rw [<- hq] at c3
       obtain ⟨S,hS⟩:∃ S,S = (parsV Rok candP p).1:=⟨_,rfl⟩
       obtain ⟨e,he⟩:∃ e,e = (parsV Rok candP p).2:=⟨_,rfl⟩
       rw [<- hS,<- he] at c4
       have hst2:R = if e = 0 then stepsF Rok candP (j + 1) P.dropLast (acc ++ [S]) else ([],e,(j:Int) + 1):=by
         rw [hst,he,hS]
         rfl
       have HS2:=lH hst2
       have HBL:=lH hB
       have HBZ:=lH (Nat.le_trans hBz HTZ.out)
       have HPL:=lH hPl
       have hone:=s6_one S
       unfold sc at c4 hone
       clear hst hst2 hS he hq hql hqz hpP hPl hPn hB hBz hpz HST HPN
       go_wp2_with fail
       refine c3.calls0 ?_
       intro w2 h2
       replace HI:=ni_step h2 HI
       clear h2
       go_wp2_with fail
       refine c4.calls0 (Kp.keep HT.out HI.out.since) ?_
       intro w5 h5
       replace HI:=ni_step h5 HI
       have hg5:=heap_alloc_new w5 (.cells #[.string ⟨#[]⟩,.string ⟨#[]⟩,.string ⟨#[]⟩,.int .i64 0,.string ⟨#[]⟩,.string ⟨#[]⟩] 27)
       have hd:Since w5 ((w5.alloc (.cells #[.string ⟨#[]⟩,.string ⟨#[]⟩,.string ⟨#[]⟩,.int .i64 0,.string ⟨#[]⟩,.string ⟨#[]⟩] 27)).setRow w5.heap.size #[.string S.v,.string S.n,.string S.o,.int .i64 S.f,.string S.t,.string S.b]):=below_setRow ((Since.refl w5).alloc _) (Nat.le_refl _) _
       have hg6:=setRow_heap _ _ _ #[.string S.v,.string S.n,.string S.o,.int .i64 S.f,.string S.t,.string S.b] _ _ hg5
       replace HI:=ni_step hd HI
       clear h5 hd
       have HB1:=lH (show acc.length + 1 <= maxLen by have:=HAL.out; unfold maxLen; omega)
       have HB2:=lH (show (acc.length + 1) * 88 <= 140737488355328 by have:=HAL.out; omega)
       by_cases he:e = 0
       · subst he
         have HS3:Hid (R = stepsF Rok candP (j + 1) P.dropLast (acc ++ [S])):=lH (by rw [HS2.out,if_pos rfl])
         clear HS2
         go_wp2_with (first
           | (refine RwL.at_store (ty:=27) rfl ?_; refine wpList_store_row rfl 27 _ _ rfl w5.heap.size #[.string S.v,.string S.n,.string S.o,.int .i64 S.f,.string S.t,.string S.b] (by rfl) (by rfl) _ _ hg5 (s6_info _ _ _ _ _ _) rfl hone ?_; obtain ⟨w9,hw9⟩:∃ W,W = (w5.alloc (.cells #[.string ⟨#[]⟩,.string ⟨#[]⟩,.string ⟨#[]⟩,.int .i64 0,.string ⟨#[]⟩,.string ⟨#[]⟩] 27)).setRow w5.heap.size #[.string S.v,.string S.n,.string S.o,.int .i64 S.f,.string S.t,.string S.b]:=⟨_,rfl⟩; rw [<- hw9] at HI hg6; rw [show (w5.alloc (.cells #[.string ⟨#[]⟩,.string ⟨#[]⟩,.string ⟨#[]⟩,.int .i64 0,.string ⟨#[]⟩,.string ⟨#[]⟩] 27)).setRow w5.heap.size #[.string S.v,.string S.n,.string S.o,.int .i64 S.f,.string S.t,.string S.b] = w9 from hw9.symm]; have m0:=row_cell hg6 0 _ rfl; have m1:=row_cell hg6 1 _ rfl; have m2:=row_cell hg6 2 _ rfl; have m3:=row_cell hg6 3 _ rfl; have m4:=row_cell hg6 4 _ rfl; have m5:=row_cell hg6 5 _ rfl; clear hw9 hg5 hg6)
           | (at_builtin; refine app_rows elemSt rfl _ _ (by rfl) w w9 _ rfl [_] [] _ acc.length _ (by rfl) HI.out.rows HI.out.since #[.string S.v,.string S.n,.string S.o,.int .i64 S.f,.string S.t,.string S.b] 1 1 (by rfl) rfl (sc_one S) HB1.out HB2.out ?_; intro V3 w4 HR4 HS4 HK4; have HI4:=ni_app HR4 HS4; clear HR4 HS4 HK4 HI HB1 HB2))
         go_roundw
         case rel => exact ⟨j + 1,B,acc ++ [S],V3,hlt,by go_num,rfl,rfl,lH (by rw [HBL.out,HPL.out]; omega),lH (by rw [HBL.out]; exact HS3.out),lH (by rw [List.length_append,HAL.out]; rfl),HBZ,HI4⟩
         case measure => (simp [intOf] <;> omega)
       · have HV:Hid (R = ([],e,(j:Int) + 1)):=lH (by rw [HS2.out,if_neg he])
         have q1:(e == 0) = false:=beq_eq_false_iff_ne.2 he
         have q2:(e != 0) = true:=by rw [bne,q1]; rfl
         have HSL:∀ W,Hid (StepsS W (.slice none 0 0) []):=fun W => lH (SlR.nil _ _)
         clear HS2 he HB1 HB2
         go_wp2_with (first
           | (refine RwL.at_store (ty:=27) rfl ?_; refine wpList_store_row rfl 27 _ _ rfl w5.heap.size #[.string S.v,.string S.n,.string S.o,.int .i64 S.f,.string S.t,.string S.b] (by rfl) (by rfl) _ _ hg5 (s6_info _ _ _ _ _ _) rfl hone ?_; obtain ⟨w9,hw9⟩:∃ W,W = (w5.alloc (.cells #[.string ⟨#[]⟩,.string ⟨#[]⟩,.string ⟨#[]⟩,.int .i64 0,.string ⟨#[]⟩,.string ⟨#[]⟩] 27)).setRow w5.heap.size #[.string S.v,.string S.n,.string S.o,.int .i64 S.f,.string S.t,.string S.b]:=⟨_,rfl⟩; rw [<- hw9] at HI hg6; rw [show (w5.alloc (.cells #[.string ⟨#[]⟩,.string ⟨#[]⟩,.string ⟨#[]⟩,.int .i64 0,.string ⟨#[]⟩,.string ⟨#[]⟩] 27)).setRow w5.heap.size #[.string S.v,.string S.n,.string S.o,.int .i64 S.f,.string S.t,.string S.b] = w9 from hw9.symm]; have hg:=lH (ni_res HI); clear hw9 hg5 hg6)
           | (refine RwL.at_store (ty:=36) rfl ?_; refine wpList_store_row rfl 36 _ _ rfl w.heap.size #[.int .i64 e,.int .i64 ((j:Int) + 1)] (by rfl) (by rfl) _ _ hg.out (f2_info _ _) rfl (f2_one _ _) ?_))
         exact bodyPost_ret (v:=.tuple #[(.slice none 0 0),.agg #[.int .i64 e,.int .i64 ((j:Int) + 1)]]) (results_t_cell Tryd.results9 _ _ _ _ _ _ _ _ rfl rfl (setRow_heap _ _ _ _ _ _ hg.out) Tryd.underlying36 rfl (f2_info _ _)) rfl ⟨_,by rw [HV.out],by rw [HV.out]; exact (HSL _).out,below_setRow HI.out.since (Nat.le_refl _) _⟩
     · obtain rfl:j = n:=by omega
       have HV:Hid (R = (acc,0,0)):=lH (by
         have h9:=HPN.out
         match hp:Sp.pcs 10 T.data.toList,h9 with
         | [],_ => exact absurd hp (Sp.pcs_ne 10 _)
         | [p],_ => rw [HST.out,hp]; rfl
         | _ :: _ :: P,h9 => exact absurd h9 (by rw [List.length_cons,List.length_cons]; omega))
       have hne:(Value.slice A6 acc.length c6).ownBlock ≠ some w.heap.size:=fun h9 => (List.pairwise_cons.1 HI.out.rows.apart).1 ⟨27,6,.slice A6 acc.length c6,acc.length,acc.flatMap sc⟩ (by simp) w.heap.size rfl h9
       have hsl:StepsS wr (.slice A6 acc.length c6) acc:=SlR.own (ni_own HI)
       have HSL:∀ C,Hid (StepsS (wr.setRow w.heap.size C) (.slice A6 acc.length c6) acc):=fun C => lH (Rcd.slr_row hsl hne C)
       have hg:=lH (ni_res HI)
       clear hne hsl HST
       go_wp2_with (refine RwL.at_store (ty:=36) rfl ?_; refine wpList_store_row rfl 36 _ _ rfl w.heap.size #[.int .i64 0,.int .i64 0] (by rfl) (by rfl) _ _ hg.out (f2_info _ _) rfl (f2_one _ _) ?_)
       exact bodyPost_ret (v:=.tuple #[(.slice A6 acc.length c6),.agg #[.int .i64 0,.int .i64 0]]) (results_t_cell Tryd.results9 _ _ _ _ _ _ _ _ rfl rfl (setRow_heap _ _ _ _ _ _ hg.out) Tryd.underlying36 rfl (f2_info _ _)) rfl ⟨_,by rw [HV.out],by rw [HV.out]; exact (HSL _).out,below_setRow HI.out.since (Nat.le_refl _) _⟩
 · have q0:(t.toList == ([]:List UInt8)) = false:=by rw [toList_d]; exact beq_eq_false_iff_ne.2 ht0
   have c2:=suf_ret t hm true (by
     unfold Lib.hasSuffix
     cases h9:List.isSuffixOf [10] t.data.toList
     · exfalso
       exact hlast (hl.2 ⟨ht0,fun h8 => by rw [List.isSuffixOf_iff_suffix.2 h8] at h9; cases h9⟩)
     · rfl)
   clear hl hlast hlast0 hR hT hm ht0 hn
   go_enter Tryd.func9,Tryd.ntmps9
   go_wp2_with fail
   obtain ⟨w1,hw1⟩:∃ W,W = w.alloc (.cells #[.int .i64 0,.int .i64 0] 36):=⟨_,rfl⟩
   rw [<- hw1] at HI hg ⊢
   clear hw1
   refine (c1).calls ?_
   go_wp2_with fail
   refine (c2).calls ?_
   go_wp2_with fail
   go_wp2_with fail
   go_loopw [0,5,28] (fun a s i wr => ∃ (j:Nat) (T:ByteArray) (acc:List St) (V:Value),j <= n /\ i = .int .i64 (j:Int) /\ a = .string T /\ s = V /\ Hid ((Sp.pcs 10 T.data.toList).length = n + 1 - j) /\ Hid (R = stepsF Rok candP j (Sp.pcs 10 T.data.toList).dropLast acc) /\ Hid (acc.length = j) /\ Hid (T.size <= t.size) /\ Hid (NI w w.heap.size V acc wr)) (fun _ _ i _ => n - (intOf i).toNat)
   case atStart => exact ⟨0,t,[],.slice none 0 0,Nat.zero_le _,rfl,rfl,rfl,HN,HST,lH rfl,lH (Nat.le_refl _),HI⟩
   case round =>
     clear HI HST hg
     obtain ⟨j,T,acc,V,hj,rfl,rfl,rfl,HPN,HST,HAL,HTZ,HI⟩:=hrel
     obtain ⟨A6,c6,hV6⟩:=RwL.own_any (ni_own HI)
     subst hV6
     by_cases hlt:j < n
     · obtain ⟨p,P,hpP⟩:∃ p P,Sp.pcs 10 T.data.toList = p :: P:=by
         cases hp:Sp.pcs 10 T.data.toList with
         | nil => exact absurd hp (Sp.pcs_ne 10 _)
         | cons p P => exact ⟨p,P,rfl⟩
       have hPl:P.length = n - j:=by
         have h9:=HPN.out
         rw [hpP,List.length_cons] at h9
         omega
       have hPn:P ≠ []:=fun h9 => by rw [h9] at hPl; simp at hPl; omega
       obtain ⟨B,c3,hB,hBz,hpz⟩:=line_cut T (by have:=HTZ.out; have:=HM.out; omega) p P hPn hpP
       have hst:R = stepsF Rok candP j (p :: P.dropLast) acc:=by
         rw [HST.out,hpP,List.dropLast_cons_of_ne_nil hPn]
       obtain ⟨q,hq⟩:∃ q,q = bs p:=⟨_,rfl⟩
       have hql:q.data.toList = p:=by rw [hq,list_bs]
       have hqz:q.size <= 1000000:=by
         have h1:q.size = p.length:=by rw [<- hql]; rfl
         have:=HTZ.out
         have:=HM.out
         omega
       have c4:=pars_k q hqz
       rw [hql] at c4
       rw [<- hq] at c3
       obtain ⟨S,hS⟩:∃ S,S = (parsV Rok candP p).1:=⟨_,rfl⟩
       obtain ⟨e,he⟩:∃ e,e = (parsV Rok candP p).2:=⟨_,rfl⟩
       rw [<- hS,<- he] at c4
       have hst2:R = if e = 0 then stepsF Rok candP (j + 1) P.dropLast (acc ++ [S]) else ([],e,(j:Int) + 1):=by
         rw [hst,he,hS]
         rfl
       have HS2:=lH hst2
       have HBL:=lH hB
       have HBZ:=lH (Nat.le_trans hBz HTZ.out)
       have HPL:=lH hPl
       have hone:=s6_one S
       unfold sc at c4 hone
       clear hst hst2 hS he hq hql hqz hpP hPl hPn hB hBz hpz HST HPN
       go_wp2_with fail
       refine c3.calls0 ?_
       intro w2 h2
       replace HI:=ni_step h2 HI
       clear h2
       go_wp2_with fail
       refine c4.calls0 (Kp.keep HT.out HI.out.since) ?_
       intro w5 h5
       replace HI:=ni_step h5 HI
       have hg5:=heap_alloc_new w5 (.cells #[.string ⟨#[]⟩,.string ⟨#[]⟩,.string ⟨#[]⟩,.int .i64 0,.string ⟨#[]⟩,.string ⟨#[]⟩] 27)
       have hd:Since w5 ((w5.alloc (.cells #[.string ⟨#[]⟩,.string ⟨#[]⟩,.string ⟨#[]⟩,.int .i64 0,.string ⟨#[]⟩,.string ⟨#[]⟩] 27)).setRow w5.heap.size #[.string S.v,.string S.n,.string S.o,.int .i64 S.f,.string S.t,.string S.b]):=below_setRow ((Since.refl w5).alloc _) (Nat.le_refl _) _
       have hg6:=setRow_heap _ _ _ #[.string S.v,.string S.n,.string S.o,.int .i64 S.f,.string S.t,.string S.b] _ _ hg5
       replace HI:=ni_step hd HI
       clear h5 hd
       have HB1:=lH (show acc.length + 1 <= maxLen by have:=HAL.out; unfold maxLen; omega)
       have HB2:=lH (show (acc.length + 1) * 88 <= 140737488355328 by have:=HAL.out; omega)
       by_cases he:e = 0
       · subst he
         have HS3:Hid (R = stepsF Rok candP (j + 1) P.dropLast (acc ++ [S])):=lH (by rw [HS2.out,if_pos rfl])
         clear HS2
         go_wp2_with (first
           | (refine RwL.at_store (ty:=27) rfl ?_; refine wpList_store_row rfl 27 _ _ rfl w5.heap.size #[.string S.v,.string S.n,.string S.o,.int .i64 S.f,.string S.t,.string S.b] (by rfl) (by rfl) _ _ hg5 (s6_info _ _ _ _ _ _) rfl hone ?_; obtain ⟨w9,hw9⟩:∃ W,W = (w5.alloc (.cells #[.string ⟨#[]⟩,.string ⟨#[]⟩,.string ⟨#[]⟩,.int .i64 0,.string ⟨#[]⟩,.string ⟨#[]⟩] 27)).setRow w5.heap.size #[.string S.v,.string S.n,.string S.o,.int .i64 S.f,.string S.t,.string S.b]:=⟨_,rfl⟩; rw [<- hw9] at HI hg6; rw [show (w5.alloc (.cells #[.string ⟨#[]⟩,.string ⟨#[]⟩,.string ⟨#[]⟩,.int .i64 0,.string ⟨#[]⟩,.string ⟨#[]⟩] 27)).setRow w5.heap.size #[.string S.v,.string S.n,.string S.o,.int .i64 S.f,.string S.t,.string S.b] = w9 from hw9.symm]; have m0:=row_cell hg6 0 _ rfl; have m1:=row_cell hg6 1 _ rfl; have m2:=row_cell hg6 2 _ rfl; have m3:=row_cell hg6 3 _ rfl; have m4:=row_cell hg6 4 _ rfl; have m5:=row_cell hg6 5 _ rfl; clear hw9 hg5 hg6)
           | (at_builtin; refine app_rows elemSt rfl _ _ (by rfl) w w9 _ rfl [_] [] _ acc.length _ (by rfl) HI.out.rows HI.out.since #[.string S.v,.string S.n,.string S.o,.int .i64 S.f,.string S.t,.string S.b] 1 1 (by rfl) rfl (sc_one S) HB1.out HB2.out ?_; intro V3 w4 HR4 HS4 HK4; have HI4:=ni_app HR4 HS4; clear HR4 HS4 HK4 HI HB1 HB2))
         go_roundw
         case rel => exact ⟨j + 1,B,acc ++ [S],V3,hlt,by go_num,rfl,rfl,lH (by rw [HBL.out,HPL.out]; omega),lH (by rw [HBL.out]; exact HS3.out),lH (by rw [List.length_append,HAL.out]; rfl),HBZ,HI4⟩
         case measure => (simp [intOf] <;> omega)
       · have HV:Hid (R = ([],e,(j:Int) + 1)):=lH (by rw [HS2.out,if_neg he])
         have q1:(e == 0) = false:=beq_eq_false_iff_ne.2 he
         have q2:(e != 0) = true:=by rw [bne,q1]; rfl
         have HSL:∀ W,Hid (StepsS W (.slice none 0 0) []):=fun W => lH (SlR.nil _ _)
         clear HS2 he HB1 HB2
         go_wp2_with (first
           | (refine RwL.at_store (ty:=27) rfl ?_; refine wpList_store_row rfl 27 _ _ rfl w5.heap.size #[.string S.v,.string S.n,.string S.o,.int .i64 S.f,.string S.t,.string S.b] (by rfl) (by rfl) _ _ hg5 (s6_info _ _ _ _ _ _) rfl hone ?_; obtain ⟨w9,hw9⟩:∃ W,W = (w5.alloc (.cells #[.string ⟨#[]⟩,.string ⟨#[]⟩,.string ⟨#[]⟩,.int .i64 0,.string ⟨#[]⟩,.string ⟨#[]⟩] 27)).setRow w5.heap.size #[.string S.v,.string S.n,.string S.o,.int .i64 S.f,.string S.t,.string S.b]:=⟨_,rfl⟩; rw [<- hw9] at HI hg6; rw [show (w5.alloc (.cells #[.string ⟨#[]⟩,.string ⟨#[]⟩,.string ⟨#[]⟩,.int .i64 0,.string ⟨#[]⟩,.string ⟨#[]⟩] 27)).setRow w5.heap.size #[.string S.v,.string S.n,.string S.o,.int .i64 S.f,.string S.t,.string S.b] = w9 from hw9.symm]; have hg:=lH (ni_res HI); clear hw9 hg5 hg6)
           | (refine RwL.at_store (ty:=36) rfl ?_; refine wpList_store_row rfl 36 _ _ rfl w.heap.size #[.int .i64 e,.int .i64 ((j:Int) + 1)] (by rfl) (by rfl) _ _ hg.out (f2_info _ _) rfl (f2_one _ _) ?_))
         exact bodyPost_ret (v:=.tuple #[(.slice none 0 0),.agg #[.int .i64 e,.int .i64 ((j:Int) + 1)]]) (results_t_cell Tryd.results9 _ _ _ _ _ _ _ _ rfl rfl (setRow_heap _ _ _ _ _ _ hg.out) Tryd.underlying36 rfl (f2_info _ _)) rfl ⟨_,by rw [HV.out],by rw [HV.out]; exact (HSL _).out,below_setRow HI.out.since (Nat.le_refl _) _⟩
     · obtain rfl:j = n:=by omega
       have HV:Hid (R = (acc,0,0)):=lH (by
         have h9:=HPN.out
         match hp:Sp.pcs 10 T.data.toList,h9 with
         | [],_ => exact absurd hp (Sp.pcs_ne 10 _)
         | [p],_ => rw [HST.out,hp]; rfl
         | _ :: _ :: P,h9 => exact absurd h9 (by rw [List.length_cons,List.length_cons]; omega))
       have hne:(Value.slice A6 acc.length c6).ownBlock ≠ some w.heap.size:=fun h9 => (List.pairwise_cons.1 HI.out.rows.apart).1 ⟨27,6,.slice A6 acc.length c6,acc.length,acc.flatMap sc⟩ (by simp) w.heap.size rfl h9
       have hsl:StepsS wr (.slice A6 acc.length c6) acc:=SlR.own (ni_own HI)
       have HSL:∀ C,Hid (StepsS (wr.setRow w.heap.size C) (.slice A6 acc.length c6) acc):=fun C => lH (Rcd.slr_row hsl hne C)
       have hg:=lH (ni_res HI)
       clear hne hsl HST
       go_wp2_with (refine RwL.at_store (ty:=36) rfl ?_; refine wpList_store_row rfl 36 _ _ rfl w.heap.size #[.int .i64 0,.int .i64 0] (by rfl) (by rfl) _ _ hg.out (f2_info _ _) rfl (f2_one _ _) ?_)
       exact bodyPost_ret (v:=.tuple #[(.slice A6 acc.length c6),.agg #[.int .i64 0,.int .i64 0]]) (results_t_cell Tryd.results9 _ _ _ _ _ _ _ _ rfl rfl (setRow_heap _ _ _ _ _ _ hg.out) Tryd.underlying36 rfl (f2_info _ _)) rfl ⟨_,by rw [HV.out],by rw [HV.out]; exact (HSL _).out,below_setRow HI.out.since (Nat.le_refl _) _⟩
end Scr
namespace Scr
open Rw RwL Kind
def mvS:St:=⟨⟨#[109,111,118,101]⟩,⟨#[97]⟩,⟨#[98]⟩,0,E0,E0⟩
def liS:St:=⟨⟨#[108,105,115,116]⟩,E0,E0,0,E0,E0⟩
def geS:St:=⟨⟨#[103,101,116]⟩,⟨#[97]⟩,E0,0,E0,E0⟩
def mvB:ByteArray:=⟨#[109,111,118,101,32,97,32,98]⟩
def lgB:ByteArray:=⟨#[108,105,115,116,10,103,101,116,32,97,10]⟩
theorem tx_mv:textV Rok mvS = mvB.data.toList:=by decide +kernel
theorem tx_li:textV Rok liS = [108,105,115,116]:=by decide +kernel
theorem tx_ge:textV Rok geS = [103,101,116,32,97]:=by decide +kernel
theorem ps_mv:parsV Rok candP mvB.data.toList = (mvS,0):=by
 have h:=pars_text Rok mvS (by rw [tx_mv]; decide)
 rwa [tx_mv] at h
theorem ps_li:parsV Rok candP [108,105,115,116] = (liS,0):=by
 have h:=pars_text Rok liS (by rw [tx_li]; decide)
 rwa [tx_li] at h
theorem ps_ge:parsV Rok candP [103,101,116,32,97] = (geS,0):=by
 have h:=pars_text Rok geS (by rw [tx_ge]; decide)
 rwa [tx_ge] at h
theorem ln_lg:linV Rok candP lgB.data.toList = ([liS,geS],0,0):=by
 have e:Sp.pcs 10 lgB.data.toList = [[108,105,115,116],[103,101,116,32,97],[]]:=by decide +kernel
 unfold linV
 rw [e,if_neg (by decide),if_neg (by decide)]
 show stepsF Rok candP 0 [[108,105,115,116],[103,101,116,32,97]] [] = _
 rw [stepsF,ps_li,if_pos rfl,stepsF,ps_ge,if_pos rfl,stepsF]
 rfl
def BX (b:Nat) (C:Array Value) (t:TypeId) (W:World):Prop:=W.heap[b]? = some (.cells C t (0,0))
theorem bx_step {b:Nat} {C:Array Value} {t:TypeId} {W W':World} (hs:Since W W') (h:Hid (BX b C t W)):Hid (BX b C t W'):=lH ((Below.block hs b (Array.getElem?_eq_some_iff.1 h.out).1).trans h.out)
set_option maxHeartbeats 8000000 in
theorem awake:KMk Tab2 5 #[] (.bool true):=by
 intro w hT
 have HT:=lH hT
 have HS:=lH (Since.refl w)
 have c1:=pars_k mvB (by decide)
 rw [ps_mv] at c1
 have c2:=lines_k lgB (by decide)
 rw [ln_lg] at c2
 have c3:=text_k mvS (by decide) (by decide) (by decide) (by decide) (by decide)
 rw [tx_mv] at c3
 have c4:=word_mk 2
 rw [show bs (wordF 2) = ⟨#[107,101,121,101,100]⟩ from rfl] at c4
 have c5:=format_mk ⟨#[119,114,97,112,112,101,100]⟩ (by decide)
 rw [show fmtW (⟨#[119,114,97,112,112,101,100]⟩:ByteArray).data.toList = 1 from by decide +kernel] at c5
 rw [show bs mvB.data.toList = mvB from bs_l mvB] at c3
 unfold sc mvS mvB E0 at c1
 unfold mvS mvB E0 at c3
 unfold lgB at c2
 have q1:((⟨#[109,111,118,101]⟩:ByteArray).toList == (⟨#[109,111,118,101]⟩:ByteArray).toList) = true:=beq_self_eq_true _
 clear hT
 go_enter Tryd.func5,Tryd.ntmps5
 go_wp2_with fail
 refine c1.calls0 HT.out ?_
 intro w1 h1
 replace HS:=lH (HS.out.step h1)
 clear h1
 go_wp2_with fail
 obtain ⟨w2,hw2⟩:∃ W,W = w1.alloc (.cells #[.string ⟨#[109,111,118,101]⟩,.string ⟨#[97]⟩,.string ⟨#[98]⟩,.int .i64 0,.string ⟨#[]⟩,.string ⟨#[]⟩] 27):=⟨_,rfl⟩
 obtain ⟨b1,hb1⟩:∃ b,b = w1.heap.size:=⟨_,rfl⟩
 have HB:Hid (BX b1 #[.string ⟨#[109,111,118,101]⟩,.string ⟨#[97]⟩,.string ⟨#[98]⟩,.int .i64 0,.string ⟨#[]⟩,.string ⟨#[]⟩] 27 w2):=lH (by rw [hw2,hb1]; exact heap_alloc_new w1 _)
 replace HS:Hid (Since w w2):=lH (by rw [hw2]; exact HS.out.alloc _)
 rw [<- hw2,<- hb1]
 clear hw2 hb1
 refine (c2 _ (Kp.keep HT.out HS.out)).mono ?_
 rintro _ w3 ⟨V,rfl,hst,h3⟩
 obtain ⟨A3,q3,rfl,-,-⟩:=hst.slice
 obtain ⟨g3,hg3⟩:∃ g,g = w3.heap.size:=⟨_,rfl⟩
 have hal:Since w3 (w3.alloc (.cells #[.int .i64 0,.int .i64 0] 36)):=(Since.refl w3).alloc _
 replace HB:=bx_step hal (bx_step h3 HB)
 have HF:Hid (BX g3 #[.int .i64 0,.int .i64 0] 36 (w3.alloc (.cells #[.int .i64 0,.int .i64 0] 36))):=lH (by rw [hg3]; exact heap_alloc_new w3 _)
 replace HS:=lH ((HS.out.step h3).step hal)
 have m0:=row_cell HB.out 0 _ rfl
 have m1:=row_cell HB.out 1 _ rfl
 have m2:=row_cell HB.out 2 _ rfl
 have m3:=row_cell HB.out 3 _ rfl
 have m4:=row_cell HB.out 4 _ rfl
 have m5:=row_cell HB.out 5 _ rfl
 have q2:((⟨#[97]⟩:ByteArray).toList == (⟨#[97]⟩:ByteArray).toList) = true:=beq_self_eq_true _
 have q3:((⟨#[98]⟩:ByteArray).toList == (⟨#[98]⟩:ByteArray).toList) = true:=beq_self_eq_true _
 clear hst h3 hal
 go_wp2_with fail
 rw [<- hg3]
 refine c3.calls0 (Kp.keep HT.out HS.out) ?_
 intro w5 h5
 replace HS:=lH (HS.out.step h5)
 replace HF:=bx_step h5 HF
 have n0:=row_cell HF.out 0 _ rfl
 clear h5 HB hg3 m0 m1 m2 m3 m4 m5
 go_wp2_with fail
 refine c4.calls0 ?_
 intro w6 h6
 replace HS:=lH (HS.out.step h6)
 clear h6
 go_wp2_with fail
 refine c5.calls0 ?_
 intro w7 h7
 replace HS:=lH (HS.out.step h7)
 clear h7
 go_wp2_with fail
 go_ret
 exact ⟨rfl,HS.out⟩
end Scr
namespace Scr
open Rw RwL Kind
theorem trod_struct6 {H:Type} {enc:TypeId × Value -> H} {P:Program} {w:World} {base:Nat} {sp:Nat -> Bool} {held:Bool} {t:TypeId} {f0 f1 f2 f3 f4 f5:Field} {fuel:Nat} {cs:List Value} {x:DataW H × List MemPlace} (ht:P.underlying t = some (.struct #[f0,f1,f2,f3,f4,f5])) (h:DataW.trod enc P w base sp held fuel t cs = some x) :
   ∃ y0 y1 y2 y3 y4 y5 n,cs.length = P.cellsOf t /\ DataW.trod enc P w base sp held n f0.type ((cs.drop f0.offset).take (P.cellsOf f0.type)) = some y0 /\
     DataW.trod enc P w base sp held n f1.type ((cs.drop f1.offset).take (P.cellsOf f1.type)) = some y1 /\ DataW.trod enc P w base sp held n f2.type ((cs.drop f2.offset).take (P.cellsOf f2.type)) = some y2 /\
     DataW.trod enc P w base sp held n f3.type ((cs.drop f3.offset).take (P.cellsOf f3.type)) = some y3 /\ DataW.trod enc P w base sp held n f4.type ((cs.drop f4.offset).take (P.cellsOf f4.type)) = some y4 /\ DataW.trod enc P w base sp held n f5.type ((cs.drop f5.offset).take (P.cellsOf f5.type)) = some y5:=by
 obtain ⟨xs,n,_,rfl,hl,hlen,hf⟩:=DataW.trod_struct ht h
 match xs,hlen with
 | [y0,y1,y2,y3,y4,y5],_ => exact ⟨y0,y1,y2,y3,y4,y5,n,hl,by simpa using hf 0 f0 rfl,by simpa using hf 1 f1 rfl,by simpa using hf 2 f2 rfl,by simpa using hf 3 f3 rfl,by simpa using hf 4 f4 rfl,by simpa using hf 5 f5 rfl⟩
theorem step_arg {H:Type} {enc:TypeId × Value -> H} {w:World} {sp:Nat -> Bool} {held:Bool} {r:Reach} {b0:Nat} {x:Value} {d:DataW H} {ps:List MemPlace}
   (hv:Value.okWide Tryd.prog w r b0 23 x) (h:DataW.Trod enc Tryd.prog w 0 sp held 23 x d ps) (_hlt:∀ x ∈ ps,x.block < w.heap.size) :
   ∃ v n o f t b,x = .agg #[.string v,.string n,.string o,.int .i64 f,.string t,.string b]:=by
 obtain ⟨cs,rfl,hsz⟩:=Go.WideShapes.okWide_struct Tryd.underlying23 hv
 have c6:Tryd.prog.cellsOf 23 = 6:=by kernel_rfl
 have ci:Tryd.prog.cellsOf 3 = 1:=by kernel_rfl
 have cs1:Tryd.prog.cellsOf 9 = 1:=by kernel_rfl
 rw [c6] at hsz
 obtain ⟨a0,a1,a2,a3,a4,a5,rfl⟩:∃ a0 a1 a2 a3 a4 a5,cs = #[a0,a1,a2,a3,a4,a5]:=by
   obtain ⟨l⟩:=cs
   match l,hsz with
   | [a0,a1,a2,a3,a4,a5],_ => exact ⟨a0,a1,a2,a3,a4,a5,rfl⟩
 obtain ⟨fuel,hf⟩:=h
 simp only [Value.cells] at hf
 obtain ⟨y0,y1,y2,y3,y4,y5,q,_,h0,h1,h2,h3,h4,h5⟩:=trod_struct6 Tryd.underlying23 hf
 dsimp only at h0 h1 h2 h3 h4 h5
 rw [cs1] at h0 h1 h2 h4 h5
 rw [ci] at h3
 obtain ⟨v,e0,_,_⟩:=DataW.trod_string Tryd.underlying9 h0
 obtain ⟨n,e1,_,_⟩:=DataW.trod_string Tryd.underlying9 h1
 obtain ⟨o,e2,_,_⟩:=DataW.trod_string Tryd.underlying9 h2
 obtain ⟨f,e3,_,_⟩:=DataW.trod_int Tryd.underlying3 h3
 obtain ⟨t,e4,_,_⟩:=DataW.trod_string Tryd.underlying9 h4
 obtain ⟨b,e5,_,_⟩:=DataW.trod_string Tryd.underlying9 h5
 simp at e0 e1 e2 e3 e4 e5
 subst e0 e1 e2 e3 e4 e5
 exact ⟨v,n,o,f,t,b,rfl⟩
def smB (v n o t b:ByteArray):Bool:=Plain.shortsB [v,n,o] 3 200 && (decide (t.size <= 1500) && decide (b.size <= 1500))
theorem sm_spec {v n o t b:ByteArray} (h:smB v n o t b = true):v.size <= 200 /\ n.size <= 200 /\ o.size <= 200 /\ t.size <= 1500 /\ b.size <= 1500:=by
 unfold smB at h
 simp only [Bool.and_eq_true,decide_eq_true_eq] at h
 have h1:=(Plain.shortsB_spec _ _ _ h.1).2
 exact ⟨h1 v (by simp),h1 n (by simp),h1 o (by simp),h.2.1,h.2.2⟩
theorem small_mk (v n o t b:ByteArray) (f:Int):Mak 4 #[.agg #[.string v,.string n,.string o,.int .i64 f,.string t,.string b]] (.bool (smB v n o t b)):=by
 intro w
 obtain ⟨q,hq⟩:∃ q,q = Plain.shortsB [v,n,o] 3 200:=⟨_,rfl⟩
 have c1:=Plain.shorts_rd [v,n,o] 3 200 q hq
 have HS:=lH (((Since.refl w).alloc (.cells #[.string v,.string n,.string o,.int .i64 f,.string t,.string b] 23)).alloc (.cells #[.string v,.string n,.string o] 9))
 have hx:StrsS ((w.alloc (.cells #[.string v,.string n,.string o,.int .i64 f,.string t,.string b] 23)).alloc (.cells #[.string v,.string n,.string o] 9)) (.slice (some ⟨w.heap.size + 1,0,none⟩) 3 3) [v,n,o]:=by
   have h1:=SlR.lit (w.alloc (.cells #[.string v,.string n,.string o,.int .i64 f,.string t,.string b] 23)) 1 3 [.string v,.string n,.string o] rfl (by decide) #[.string v,.string n,.string o] rfl 9
   have e:(w.alloc (.cells #[.string v,.string n,.string o,.int .i64 f,.string t,.string b] 23)).heap.size = w.heap.size + 1:=by simp
   rw [e] at h1
   exact h1
 obtain ⟨R,hR⟩:∃ R,R = smB v n o t b:=⟨_,rfl⟩
 rw [<- hR]
 have hR2:R = (q && (decide (t.size <= 1500) && decide (b.size <= 1500))):=by rw [hR,hq]; rfl
 have HR:=lH hR2
 have HX:=lH hx
 clear hq hR hR2 hx
 go_enter Tryd.func4,Tryd.ntmps4
 go_wp2_with fail
 refine Plain.RdSh.calls c1 HX.out ?_
 cases q
 · have HV:Hid (R = false):=lH (by rw [HR.out]; rfl)
   go_wp2_with fail
   go_ret
   rw [HV.out]
   exact ⟨rfl,HS.out⟩
 by_cases ht:t.size <= 1500
 · have t1:decide ((t.size:Int) <= 1500) = true:=decide_eq_true (by omega)
   by_cases hb:b.size <= 1500
   · have t2:decide ((b.size:Int) <= 1500) = true:=decide_eq_true (by omega)
     have HV:Hid (R = true):=lH (by rw [HR.out,decide_eq_true ht,decide_eq_true hb]; rfl)
     go_wp2_with fail
     go_ret
     rw [HV.out]
     exact ⟨rfl,HS.out⟩
   · have t2:decide ((b.size:Int) <= 1500) = false:=decide_eq_false (by omega)
     have HV:Hid (R = false):=lH (by rw [HR.out,decide_eq_true ht,decide_eq_false hb]; rfl)
     go_wp2_with fail
     go_ret
     rw [HV.out]
     exact ⟨rfl,HS.out⟩
 · have t1:decide ((t.size:Int) <= 1500) = false:=decide_eq_false (by omega)
   have HV:Hid (R = false):=lH (by rw [HR.out,decide_eq_false ht]; rfl)
   go_wp2_with fail
   go_ret
   rw [HV.out]
   exact ⟨rfl,HS.out⟩
def LeS (M:Nat) (s:St):Prop:=s.v.size <= M /\ s.n.size <= M /\ s.o.size <= M /\ s.t.size <= M /\ s.b.size <= M
theorem set_le {M:Nat} {s:St} (h:LeS M s) (c:UInt8) (p:ByteArray) (hp:p.size <= M):LeS M (setF s c p):=by
 obtain ⟨h1,h2,h3,h4,h5⟩:=h
 have hu:(Dig.unS p.data.toList).size <= M:=Nat.le_trans (unS_size _) hp
 unfold setF
 split
 · exact ⟨h1,hp,h3,h4,h5⟩
 split
 · exact ⟨h1,h2,hp,h4,h5⟩
 split
 · exact ⟨h1,h2,h3,h4,h5⟩
 split
 · exact ⟨h1,h2,h3,h4,hu⟩
 split
 · exact ⟨h1,h2,h3,hp,h5⟩
 · exact ⟨h1,h2,h3,h4,h5⟩
theorem fold_le {M:Nat}:∀ (l:List (UInt8 × ByteArray)) (s:St),LeS M s -> (∀ x ∈ l,x.2.size <= M) -> LeS M (foldS s l)
 | [],_,h,_ => h
 | (c,p) :: l,s,h,hl => fold_le l (setF s c p) (set_le h c p (hl (c,p) (List.mem_cons_self ..))) (fun x hx => hl x (List.mem_cons_of_mem _ hx))
theorem parts_le (fs rest:List UInt8):∀ w ∈ partsP fs rest,w.length <= rest.length:=by
 intro w hw
 unfold partsP at hw
 by_cases h:fs = []
 · rw [if_pos h] at hw; cases hw
 · rw [if_neg h] at hw
   obtain ⟨k,hk⟩:∃ k,fs.length = k + 1:=⟨fs.length - 1,by have:0 < fs.length:=List.length_pos_iff.2 h; omega⟩
   have h1:=Sp.splB_list 32 k (bs rest)
   rw [list_bs,<- hk] at h1
   rw [<- h1] at hw
   obtain ⟨x,hx,rfl⟩:=List.mem_map.1 hw
   have h2:=Sp.splB_le 32 k (bs rest) x hx
   rw [size_bs] at h2
   exact h2
theorem cand_le (l:List UInt8):LeS l.length (candP l):=by
 have h1:=head_le l
 have e0:E0.size = 0:=rfl
 unfold candP
 refine fold_le _ _ ⟨by show (bs _).size <= _; rw [size_bs]; exact h1.1,by show E0.size <= _; omega,by show E0.size <= _; omega,by show E0.size <= _; omega,by show E0.size <= _; omega⟩ ?_
 intro x hx
 have h2:=(List.of_mem_zip (a:=x.1) (b:=x.2) hx).2
 obtain ⟨w,hw,e⟩:=List.mem_map.1 h2
 rw [<- e,size_bs]
 exact Nat.le_trans (parts_le _ _ w hw) h1.2
theorem pars_le (l:List UInt8) (S:St) (h:parsV Rok candP l = (S,0)):LeS l.length S:=by
 unfold parsV at h
 split at h
 · exact absurd (congrArg Prod.snd h) (by show ¬ (4:Int) = 0; decide)
 · split at h
   · have h1:candP l = S:=congrArg Prod.fst h
     rw [<- h1]
     exact cand_le l
   · exact absurd (congrArg Prod.snd h) (by show ¬ (5:Int) = 0; decide)
end Scr
end Go.Proofs.YtcdjfmlanicjlaaDoor
