import Derived.Test.YtfnmakelbijmkaaGreatDoorRh48
import Derived.Test.YtfnmakelbijmkaaGreatDoorRh49
set_option maxRecDepth 100000
namespace Go.Proofs.YtfnmakelbijmkaaGreatDoor
open Go.RowKit
namespace Rcd
open Att Kind Rec Atf Rw Flt Tlv
theorem wp_app_rows {T E:TypeId} {z:Value} {size bytes:Nat} (I:ElemIs T E z size bytes) {o:Oper} {a:Act} {K:Act -> World -> Prop} {Q:Exit -> Act -> World -> Prop} (s x:Operand)
   (ho:o.op = .call { callee:=.builtin .append,args:=#[s,x],argTypes:=#[T,T] })
   (w0 wr:World) (H:Nat) (hH:wr.heap.size = H) (A B:List Rw.Row) (v:Value) (n:Nat) (xs:List Value) (hs:a.eval s = v) (hown:Rw.Rows wr w0.heap.size (A ++ ⟨E,size,v,n,xs⟩ :: B)) (hS:Since w0 wr)
   (cells:Array Value) (c m:Nat) (hx:a.eval x = .slice (some ⟨H,0,none⟩) m c) (hl:cells.toList.length = m * size) (h1:∀ u ∈ cells.toList,u.oneCell' = true)
   (h63:n + m <= maxLen) (hbytes:(n + m) * bytes <= 140737488355328)
   (h:∀ v' w',Rw.Rows w' w0.heap.size (A ++ ⟨E,size,v',n + m,xs ++ cells.toList⟩ :: B) -> Since w0 w' -> KeptBut wr w' v -> K (a.put o.dst v') w') :
   o.wp Tryz.prog a (wr.alloc (.cells cells E)) K Q:=by
 subst hH
 obtain ⟨ht,hi,hz,hs0⟩:=I
 obtain ⟨i,hi1,hi2⟩:=Option.map_eq_some_iff.1 hi
 simp only [Prod.mk.injEq] at hi2
 have hown1:=hown.get
 have h9:=Below.size hS
 obtain ⟨v',w',hr,ho',hg,-,hw⟩:=run_append_own_at (P:=Tryz.prog) (wr.alloc (.cells cells E)) w0.heap.size T o.type E i z size bytes ht hi1 hi2.1 hi2.2.1 hi2.2.2 hz hs0 v n xs (hown1.alloc _) ⟨wr.heap.size,0,none⟩ m c cells.toList hl (by
   intro j u hu
   have hj:j < cells.size:=by
     rcases List.getElem?_eq_some_iff.1 hu with ⟨hj,_⟩
     simpa using hj
   have hadd:(⟨wr.heap.size,0,none⟩:Addr).add j = ⟨wr.heap.size,j,none⟩:=by unfold Addr.add; split <;> simp_all
   rw [hadd,(World.rowIs_alloc wr cells E (fun k => cells.getD k (.bool false)) (fun k hk => by simp [Array.getD,hk])).cell hj]
   rw [Array.getElem?_toList] at hu
   simp [Array.getD,hj] at hu ⊢
   exact hu) h1 h63 hbytes (by simp; omega)
 unfold Oper.wp execOp
 simp only [ho,resolve,invoke,builtin,Sem.run_bind,Sem.run_pure,Result.andThen_ok,List.map_toArray,List.map_cons,List.map_nil,hs,hx,hr]
 refine h v' w' (hown.turn ⟨E,size,v',n + m,xs ++ cells.toList⟩ ho' fun u hu hap => ⟨?_, ?_⟩) ?_ ⟨by have:=hg.size; simp at this; omega,fun b hb hr => ?_⟩
 · refine (World.ownsRow.alloc hu _).kept hg ?_
   cases hub:u.v.ownBlock with
   | none => exact Or.inl rfl
   | some g => exact Or.inr fun e => hap g e.symm hub
 · intro g h2 h3
   rcases hw with hw | hw
   · exact hap g (hw ▸ h2) h3
   · rw [show (⟨E,size,v',n + m,xs ++ cells.toList⟩:Rw.Row).v = v' from rfl,hw] at h2
     cases h2
     have h4:=(World.ownsRow.lt hu _ h3).2
     have e4:(wr.alloc (.cells cells E)).heap.size = wr.heap.size + 1:=by simp
     omega
 · exact Below.grown (Below.alloc hS (Below.size hS) _) hg (by simp; omega) (fun k hk => (hown1.lt k hk).1)
 · rw [hg.block b (by simp; omega) hr]
   exact heap_alloc_old _ _ hb
def attB (a:A2):ByteArray:=bs (attW a)
def St (w0 W:World) (g:Nat) (ts:List ByteArray):Prop:=∃ V,Rw.Rows W w0.heap.size (RwL.lone 50 g [V] :: ⟨9,1,V,ts.length,ts.map Value.string⟩ :: []) /\ Since w0 W
theorem St.since {w0 W W':World} {g:Nat} {ts:List ByteArray} (h:St w0 W g ts) (hs:Since W W'):St w0 W' g ts:=by
 obtain ⟨V,h1,h2⟩:=h
 exact ⟨V,Rw.Rows.since h1 hs,h2.step hs⟩
theorem cell_kept {W W':World} {v:Value} {b o:Nat} (hk:KeptBut W W' v) (hb:b < W.heap.size) (hne:some b ≠ v.ownBlock):W'.cell? ⟨b,o,none⟩ = W.cell? ⟨b,o,none⟩:=by
 unfold World.cell?
 rw [hk.block b hb hne]
theorem att_cat (a:A2):bs (Dig.numS a.1) ++ ⟨#[61]⟩ ++ bs (hx a.2) = attB a:=by
 apply ba_ext
 rw [app_list,app_list]
 unfold attB attW
 rw [list_bs,list_bs,list_bs,List.append_assoc]
 rfl
theorem strs_one:(Tryz.prog.info? 50).map (·.size) = some 1:=by kernel_rfl
set_option maxHeartbeats 8000000 in
theorem clo_mk (t:Int) (v:ByteArray) (ht:-9223372036854775808 <= t /\ t <= 9223372036854775807) (hv:v.size <= 100000) (ts:List ByteArray) (hm:ts.length <= 1000) (w0 W:World) (g:Nat) (hS:St w0 W g ts) :
   Calls Tryz.prog 42 #[.agg #[.int .i64 t,.string v],.pointer (some ⟨g,0,none⟩)] W fun e w' => e = .returned (.tuple #[]) /\ St w0 w' g (ts ++ [attB (t,v)]):=by
 obtain ⟨V,hR,hSS⟩:=hS
 have c1:=Dig.num_mak t ht
 have c2:Mak 40 #[.string v] (.string (bs (hx v))):=fun W => Dig.hex_any v W (by omega)
 obtain ⟨X,hX⟩:∃ X,X = bs (Dig.numS t):=⟨_,rfl⟩
 obtain ⟨Y,hY⟩:∃ Y,Y = bs (hx v):=⟨_,rfl⟩
 have hxl:X.size <= 1000:=by
   rw [hX,size_bs]
   unfold Dig.numS
   have:=digs_len 20 t.natAbs
   split
   · show _ + 1 <= 1000; omega
   · omega
 have hyl:Y.size <= 200000:=by
   rw [hY,size_bs,Dig.hexL_len]
   have:v.data.toList.length = v.size:=rfl
   omega
 have HE:=lH (att_cat (t,v))
 rw [<- hX] at c1
 rw [<- hY] at c2
 have HE2:Hid (X ++ ⟨#[61]⟩ ++ Y = attB (t,v)):=lH (by rw [hX,hY]; exact HE.out)
 have hl1:¬ 9223372036854775807 < X.size + 1:=by omega
 have hl2:¬ 9223372036854775807 < X.size + 1 + Y.size:=by omega
 have hl3:¬ 9223372036854775807 < (X ++ ⟨#[61]⟩).size + Y.size:=by
   rw [ByteArray.size_append]
   exact hl2
 have hq:=(Since.refl W).alloc (.cells #[.int .i64 t,.string v] 39)
 have HR:=lH (Rw.Rows.since hR hq)
 have HS:=lH (hSS.step hq)
 have b0:(W.alloc (.cells #[.int .i64 t,.string v] 39)).cell? ⟨W.heap.size,0,none⟩ = some (.int .i64 t):=(World.cell?_alloc_new _ _ _ _).trans rfl
 have b1:(W.alloc (.cells #[.int .i64 t,.string v] 39)).cell? ⟨W.heap.size,1,none⟩ = some (.string v):=(World.cell?_alloc_new _ _ _ _).trans rfl
 have g0:=(RwL.lone_cell (HR.out.own (RwL.lone 50 g [V]) (by simp)) 0 V rfl).1
 have HM:=lH hm
 have HV:=lH (show some W.heap.size ≠ V.ownBlock from fun e => by
   have h9:=(World.ownsRow.lt (Rw.Rows.own hR ⟨9,1,V,ts.length,ts.map Value.string⟩ (by simp)) W.heap.size e.symm).2
   omega)
 clear hR hSS hq hX hY HE hxl hyl hv ht hm
 go_enter Tryz.func42,Tryz.ntmps42
 go_wp2_with fail
 have hHeld:=And.intro g0 (And.intro b0 b1)
 clear g0 b0 b1
 have hq:=Since.drew (Since.refl (W.alloc (.cells #[.int .i64 t,.string v] 39)))
 replace HR:=lH (Rw.Rows.since HR.out hq)
 replace HS:=lH (HS.out.step hq)
 replace hHeld:=And.intro ((Below.cell hq (p:=⟨g,0,none⟩) (lt_cell hHeld.1)).trans hHeld.1) (And.intro ((Below.cell hq (p:=⟨W.heap.size,0,none⟩) (lt_cell hHeld.2.1)).trans hHeld.2.1) ((Below.cell hq (p:=⟨W.heap.size,1,none⟩) (lt_cell hHeld.2.2)).trans hHeld.2.2))
 refine RegW.start (fun W' => W'.cell? ⟨g,0,none⟩ = some V /\ W'.cell? ⟨W.heap.size,0,none⟩ = some (.int .i64 t) /\ W'.cell? ⟨W.heap.size,1,none⟩ = some (.string v)) 11 (by kernel_rfl) hHeld (fun _ => ?_)
 generalize (W.alloc (.cells #[.int .i64 t,.string v] 39)).drew = wa at HR HS hHeld ⊢
 clear hq
 refine RegW.tk 0 rfl ?_
 try simp only [RegW.p]
 refine RegW.tk 1 rfl ?_
 try simp only [RegW.p]
 refine RegW.tk 2 rfl ?_
 try simp only [RegW.p]
 refine RegW.tk 5 rfl ?_
 try simp only [RegW.p]
 refine RegW.tk 6 rfl ?_
 try simp only [RegW.p]
 refine RegW.only (i:=3) rfl (by kernel_rfl) (fun K hK => ?_)
 go_simp
 go_at_call 43
 refine c1.calls0 ?_
 intro wb hq
 replace HR:=lH (Rw.Rows.since HR.out hq)
 replace HS:=lH (HS.out.step hq)
 replace hHeld:=And.intro ((Below.cell hq (p:=⟨g,0,none⟩) (lt_cell hHeld.1)).trans hHeld.1) (And.intro ((Below.cell hq (p:=⟨W.heap.size,0,none⟩) (lt_cell hHeld.2.1)).trans hHeld.2.1) ((Below.cell hq (p:=⟨W.heap.size,1,none⟩) (lt_cell hHeld.2.2)).trans hHeld.2.2))
 clear hq
 refine hK.out _ _ hHeld (fun _ => ?_)
 clear hK K
 try simp only [RegW.p]
 refine RegW.tk (v:=.string (X ++ ⟨#[61]⟩)) 4 rfl ?_
 try simp only [RegW.p]
 refine RegW.only (i:=7) rfl (by kernel_rfl) (fun K hK => ?_)
 go_simp
 go_at_call 40
 refine c2.calls0 ?_
 intro wc hq
 replace HR:=lH (Rw.Rows.since HR.out hq)
 replace HS:=lH (HS.out.step hq)
 replace hHeld:=And.intro ((Below.cell hq (p:=⟨g,0,none⟩) (lt_cell hHeld.1)).trans hHeld.1) (And.intro ((Below.cell hq (p:=⟨W.heap.size,0,none⟩) (lt_cell hHeld.2.1)).trans hHeld.2.1) ((Below.cell hq (p:=⟨W.heap.size,1,none⟩) (lt_cell hHeld.2.2)).trans hHeld.2.2))
 clear hq
 refine hK.out _ _ hHeld (fun _ => ?_)
 clear hK K
 try simp only [RegW.p]
 refine RegW.tk (v:=.string (X ++ ⟨#[61]⟩ ++ Y)) 8 rfl ?_
 try simp only [RegW.p]
 rw [HE2.out]
 refine RegW.only (i:=9) rfl (by kernel_rfl) (fun K hK => ?_)
 go_simp
 have HB0:=lH hHeld
 have hq:=(Since.refl wc).alloc (.cells #[.string (attB (t,v))] 9)
 replace hHeld:=And.intro ((Below.cell hq (p:=⟨g,0,none⟩) (lt_cell hHeld.1)).trans hHeld.1) (And.intro ((Below.cell hq (p:=⟨W.heap.size,0,none⟩) (lt_cell hHeld.2.1)).trans hHeld.2.1) ((Below.cell hq (p:=⟨W.heap.size,1,none⟩) (lt_cell hHeld.2.2)).trans hHeld.2.2))
 clear hq
 refine hK.out _ _ hHeld (fun _ => ?_)
 clear hK K
 try simp only [RegW.p]
 refine RegW.only (i:=10) rfl (by kernel_rfl) (fun K hK => ?_)
 rw [if_pos (by kernel_rfl)]
 refine wp_app_rows elemS _ _ (by rfl) w0 wc _ rfl [RwL.lone 50 g [V]] [] V ts.length _ (by rfl) HR.out HS.out #[.string (attB (t,v))] 1 1 (by rfl) rfl (Atf.s_one _) (by have:=HM.out; unfold maxLen; omega) (by have:=HM.out; omega) ?_
 intro V2 wd HQ HT HK2
 have hlt:=lt_cell HB0.out.2.1
 have hHeld2:=And.intro (RwL.lone_cell (HQ.own (RwL.lone 50 g [V]) (by simp)) 0 V rfl).1 (And.intro ((cell_kept HK2 hlt HV.out).trans HB0.out.2.1) ((cell_kept HK2 hlt HV.out).trans HB0.out.2.2))
 obtain ⟨VA,vc,hV2⟩:∃ A c,V2 = .slice A (ts.length + 1) c:=RwL.own_any HQ.get
 subst hV2
 have HQ3:=lH HQ
 have HT3:=lH HT
 clear HQ HT HK2 hlt HR HS HB0
 refine hK.out _ _ hHeld2 (fun _ => ?_)
 clear hK K hHeld2 hHeld
 try simp only [RegW.p]
 refine RegW.last rfl (by kernel_rfl) (by kernel_rfl) ?_
 refine RwL.store_rows rfl 50 _ _ (by rfl) strs_one w0 wd [] [⟨9,1,.slice VA (ts.length + 1) vc,ts.length + 1,_⟩] 50 1 g 1 1 [V] HQ3.out HT3.out 0 (by decide) (by rfl) (.slice VA (ts.length + 1) vc) (by rfl) rfl ?_
 intro we HQ4 HT4 _
 have HF:Hid (St w0 we g (ts ++ [attB (t,v)])):=lH ⟨.slice VA (ts.length + 1) vc,by
   rw [List.length_append,List.map_append]
   exact HQ4,HT4⟩
 clear HQ4 HT4 HQ3 HT3
 go_wp2_with fail
 go_end0
 exact ⟨rfl,HF.out⟩
end Rcd
namespace Rcd
open Att Kind Rec Atf Rw Flt Tlv
def numOk (a:A2):Prop:=(-9223372036854775808 <= a.1 /\ a.1 <= 9223372036854775807) /\ a.2.size <= 100000
theorem a2_info (x y:Value):(Tryz.prog.info? 39).map (·.size) = some (#[x,y]:Array Value).size:=by kernel_rfl
theorem a2_one (x:Int) (y:ByteArray):(#[.int .i64 x,.string y]:Array Value).all (·.oneCell') = true:=by
 rw [Array.all_eq_true]
 intro k hk
 match k,hk with
 | 0,_ | 1,_ => rfl
set_option maxHeartbeats 4000000 in
theorem each_mk (L:List A2) (hL:∀ a ∈ L,numOk a) (hn:L.length <= 100) (ts:List ByteArray) (hm:ts.length <= 100) (w0 w:World) (g:Nat) (x:Value) (hx:AttsS w0 x L) (hS:St w0 w g ts) :
   Calls Tryz.prog 41 #[x,.func (.func 42) #[] #[.pointer (some ⟨g,0,none⟩)]] w fun e w' => e = .returned (.tuple #[]) /\ St w0 w' g (ts ++ L.map attB):=by
 obtain ⟨A,c,rfl,-,-⟩:=hx.slice
 obtain ⟨n,hnn⟩:∃ n,n = L.length:=⟨_,rfl⟩
 have HN:=lH hnn
 have HX:=lH hx
 have HL:=lH hL
 have HS:=lH hS
 rw [<- hnn] at hn ⊢
 clear hx hL hS hnn
 go_enter Tryz.func41,Tryz.ntmps41
 go_wp2_with fail
 go_loopw [8] (fun i wr => ∃ k:Nat,k <= n /\ i = .int .i64 (k:Int) /\ Hid (St w0 wr g (ts ++ (L.take k).map attB))) (fun i _ => n - (intOf i).toNat)
 case atStart => exact ⟨0,Nat.zero_le _,rfl,lH (by rw [List.take_zero,List.map_nil,List.append_nil]; exact HS.out)⟩
 case round =>
   clear HS
   obtain ⟨k,hk,rfl,HS⟩:=hrel
   by_cases hlt:k < n
   · obtain ⟨⟨t,v⟩,hs⟩:∃ s,L[k]? = some s:=⟨_,List.getElem?_eq_getElem (by rw [<- HN.out]; exact hlt)⟩
     obtain ⟨b,o,c9,hv,f1,f2,f3,f4⟩:=AttsS.form HX.out (by rw [<- HN.out]; omega)
     obtain ⟨rfl,-,rfl⟩:=Value.slice.inj hv
     obtain ⟨V,hR,hSS⟩:=HS.out
     have m0:=(Below.cell hSS (p:=⟨b,o + k * 2,none⟩) f3).trans (f4 k _ hs).1
     have m1:=(Below.cell hSS (p:=⟨b,o + k * 2 + 1,none⟩) f3).trans (f4 k _ hs).2
     have hno:=HL.out (t,v) (List.mem_of_getElem? hs)
     have i1:(0:Int) <= (k:Int):=by omega
     have i2:(k:Int) < (n:Int):=by omega
     have HTS:Hid (ts ++ (L.take (k + 1)).map attB = ts ++ (L.take k).map attB ++ [attB (t,v)]):=lH (by rw [Att.take_snoc L k _ hs,List.map_append,List.append_assoc]; rfl)
     have HLE:Hid ((ts ++ (L.take k).map attB).length <= 1000):=lH (by rw [List.length_append,List.length_map,List.length_take]; omega)
     have HNO:=lH hno
     have r1:(wr.alloc (.cells #[.int .i64 0,.string ⟨#[]⟩] 39)).heap[wr.heap.size]? = some (.cells #[.int .i64 0,.string ⟨#[]⟩] 39 (0,0)):=heap_alloc_new wr _
     have hsr:=below_setRow ((Since.refl wr).alloc (.cells #[.int .i64 0,.string ⟨#[]⟩] 39)) (Nat.le_refl _) (#[.int .i64 t,.string v]:Array Value)
     have HS3:=lH (St.since HS.out hsr)
     have hi:HR wr wr.heap.size #[.int .i64 t,.string v] 39 ((wr.alloc (.cells #[.int .i64 0,.string ⟨#[]⟩] 39)).setRow wr.heap.size #[.int .i64 t,.string v]):=⟨setRow_heap _ _ _ _ _ _ r1⟩
     have k0:=hr_cell hi 0 _ rfl
     have k1:=hr_cell hi 1 _ rfl
     clear hs hv f1 f2 f3 f4 hR hSS hno hsr hi HS
     go_wp2_with (refine RwL.at_store (ty:=39) rfl ?_; refine wpList_store_row rfl 39 _ _ rfl wr.heap.size #[.int .i64 t,.string v] (by rfl) (by rfl) _ _ r1 (a2_info _ _) rfl (a2_one _ _) ?_; generalize (wr.alloc (.cells #[.int .i64 0,.string ⟨#[]⟩] 39)).setRow wr.heap.size #[.int .i64 t,.string v] = w3 at HS3 k0 k1 ⊢; clear r1)
     refine (clo_mk t v HNO.out.1 HNO.out.2 _ HLE.out w0 w3 g HS3.out).mono ?_
     rintro _ w4 ⟨rfl,h4⟩
     have HF:Hid (St w0 w4 g (ts ++ (L.take (k + 1)).map attB)):=lH (by rw [HTS.out]; exact h4)
     clear h4 k0 k1 m0 m1 HS3
     go_wp2_with fail
     go_roundw
     case rel => exact ⟨k + 1,by omega,by go_num,HF⟩
     case measure => (simp [intOf] <;> omega)
   · obtain rfl:n = k:=by omega
     have HF:Hid (St w0 wr g (ts ++ L.map attB)):=lH (by have h9:=HS.out; rw [HN.out,List.take_length] at h9; exact h9)
     clear HS
     go_wp2_with fail
     go_end0
     exact ⟨rfl,HF.out⟩
end Rcd
namespace Rcd
open Att Kind Rec Atf Rw Flt Tlv
theorem bare_mk (K:Int) (k u m v e:ByteArray) (L:List A2):RdR 19 L (fun x => #[rv K k u m v e x]) (.bool (bareB u m v e)):=by
 intro w x hT hx
 obtain ⟨A,q,rfl,hq1,hq2⟩:=hx.slice
 have hp:=lH (hb_new w Tab2 hT #[.int .i64 K,.string k,.slice A L.length q,.string u,.string m,.string v,.string e] 26)
 have HS:=lH hp.out.since
 obtain ⟨_,m0,m1,m2,m3,m4,m5,m6⟩:=hb7 hp
 clear hx hT
 go_enter Tryz.func19,Tryz.ntmps19
 go_wp2_with fail
 all_goals
   go_ret
   exact ⟨by simp_all [bareB],HS.out⟩
theorem s4_info (a b c d:Value):(Tryz.prog.info? 66).map (·.size) = some (#[a,b,c,d]:Array Value).size:=by kernel_rfl
theorem fields_mk (u m v e:ByteArray):Mak 44 #[.agg #[.string u,.string m,.string v,.string e]] (.agg #[.string u,.string m,.string v,.string e]):=by
 intro w
 have hz:(w.alloc (.cells #[.string u,.string m,.string v,.string e] 24)).heap.size = w.heap.size + 1:=by simp
 have hb:Hid (HR w w.heap.size #[.string u,.string m,.string v,.string e] 24 ((w.alloc (.cells #[.string u,.string m,.string v,.string e] 24)).alloc (.cells #[.string ⟨#[]⟩,.string ⟨#[]⟩,.string ⟨#[]⟩,.string ⟨#[]⟩] 66))):=lH (hr_old ⟨heap_alloc_new w _⟩ _)
 have hr:Hid (HR w (w.heap.size + 1) #[.string ⟨#[]⟩,.string ⟨#[]⟩,.string ⟨#[]⟩,.string ⟨#[]⟩] 66 ((w.alloc (.cells #[.string u,.string m,.string v,.string e] 24)).alloc (.cells #[.string ⟨#[]⟩,.string ⟨#[]⟩,.string ⟨#[]⟩,.string ⟨#[]⟩] 66))):=lH ⟨by rw [<- hz]; exact heap_alloc_new _ _⟩
 have HS:=lH (((Since.refl w).alloc (.cells #[.string u,.string m,.string v,.string e] 24)).alloc (.cells #[.string ⟨#[]⟩,.string ⟨#[]⟩,.string ⟨#[]⟩,.string ⟨#[]⟩] 66))
 have b0:=hr_cell hb.out 0 _ rfl
 have b1:=hr_cell hb.out 1 _ rfl
 have b2:=hr_cell hb.out 2 _ rfl
 have b3:=hr_cell hb.out 3 _ rfl
 clear hz hb
 go_enter Tryz.func44,Tryz.ntmps44
 go_wp2_with (refine RwL.at_store (ty:=66) rfl ?_; refine wpList_store_row rfl 66 _ _ rfl (w.heap.size + 1) #[.string u,.string m,.string v,.string e] (by rfl) (by rfl) _ _ hr.out.row (s4_info _ _ _ _) rfl (h4_one _ _ _ _) ?_)
 exact bodyPost_ret (v:=.agg #[.string u,.string m,.string v,.string e]) (results_cell_row Tryz.results44 _ _ _ _ _ _ _ rfl (setRow_heap _ _ _ _ _ _ hr.out.row) Tryz.underlying66 rfl (s4_info _ _ _ _)) rfl ⟨rfl,below_setRow HS.out (Nat.le_add_right _ _) _⟩
theorem st_mk (w0 W:World) (gA gB:Nat) (a b:ByteArray) (hA:W.heap[gA]? = some (.cells #[.slice (some ⟨gB,0,none⟩) 2 2] 50 (0,0))) (hB:W.heap[gB]? = some (.cells #[.string a,.string b] 9 (0,0))) (ha:w0.heap.size <= gA) (hb:w0.heap.size <= gB) (hne:gA ≠ gB) (hs:Since w0 W):St w0 W gA [a,b]:=by
 refine ⟨.slice (some ⟨gB,0,none⟩) 2 2,⟨fun r hr => ?_, ?_⟩,hs⟩
 · rcases List.mem_cons.1 hr with rfl | hr
   · exact Tree.own_lone (C:=[.slice (some ⟨gB,0,none⟩) 2 2]) ha hA
   · rw [List.mem_singleton.1 hr]
     exact ⟨rfl,.inr ⟨gB,2,_,rfl,hb,hB,Nat.le_refl _,by decide,rfl,rfl⟩⟩
 · refine List.pairwise_cons.2 ⟨fun r hr => ?_,by simp⟩
   rw [List.mem_singleton.1 hr]
   intro g h1 h2
   cases h1
   cases h2
   exact hne rfl
theorem inter_join (c:UInt8):∀ ws:List (List UInt8),[c].intercalate ws = Sp.joinC c ws
 | [] => rfl
 | [w] => by simp [List.intercalate,Sp.joinC]
 | w :: v :: ws => by
   have e:[c].intercalate (w :: v :: ws) = w ++ ([c] ++ [c].intercalate (v :: ws)):=by simp [List.intercalate]
   rw [e,inter_join c (v :: ws)]
   rfl
theorem join_size (c:UInt8) (ws:List (List UInt8)) (M:Nat) (h:∀ w ∈ ws,w.length <= M):(Sp.joinC c ws).length <= ws.length * (M + 1):=by
 induction ws with
 | nil => exact Nat.zero_le _
 | cons w ws ih =>
   have h1:=h w (List.mem_cons_self ..)
   cases ws with
   | nil => show w.length <= 1 * (M + 1); omega
   | cons v ws =>
     have h2:=ih (fun x hx => h x (List.mem_cons_of_mem _ hx))
     rw [Sp.joinC,List.length_append,List.length_cons,List.length_cons,Nat.add_mul]
     omega
theorem join_sp (c:UInt8) (l:List ByteArray) (hl:(Sp.joinC c (l.map (·.data.toList))).length <= 140737488355328) (hn:l.length <= 140737488355328) (w:World) (x:Value) (hx:StrsS w x l):Calls Tryz.prog 45 #[x,.string ⟨#[c]⟩] w fun e w' => e = .returned (.string (bs (Sp.joinC c (l.map (·.data.toList))))) /\ Since w w':=by
 by_cases h0:l.length = 0
 · obtain rfl:=List.length_eq_zero_iff.1 h0
   obtain ⟨A,q,rfl,-⟩:=SlR.empty hx rfl
   refine (Tryz.strings_Join_none A q ⟨#[c]⟩ w).mono ?_
   rintro _ _ ⟨rfl,rfl⟩
   exact ⟨rfl,Since.refl _⟩
 · obtain ⟨b,o,q,rfl,h1,h2,h3,h4⟩:=Setof.strs_cells hx (by omega)
   have e:Lib.join (l.map (·.data.toList)) (⟨#[c]⟩:ByteArray).data.toList = Sp.joinC c (l.map (·.data.toList)):=inter_join c _
   have h:=Tryz.strings_Join b o q l ⟨#[c]⟩ w (fun j y hy => h4 j y hy) h3 hn h1 (by rw [e]; exact hl)
   rw [e] at h
   exact h
end Rcd
end Go.Proofs.YtfnmakelbijmkaaGreatDoor
