import Derived.Test.YtddlaafpianjbaaGreatDoorBo25
import Derived.Test.YtddlaafpianjbaaGreatDoorBo23
import Derived.Test.YtddlaafpianjbaaGreatDoorBo5
set_option maxRecDepth 100000
namespace Go.Proofs.YtddlaafpianjbaaGreatDoor
open Go.RowKit
namespace Aes
open Rnd
theorem slice_b (b o:Nat) (w:World):(Instr.sliceAt 159 (.pointer (some ⟨b,o,none⟩)) none none none).run Tryz.prog w = .ok (.slice (some ⟨b,o,none⟩) 16 16) w:=by kernel_rfl
set_option maxHeartbeats 200000 in
theorem read_yes (c:Nat) (ks:List ByteArray) (n:Nat) (len:Int) (hn:(len == 0) = false) (s:ByteArray) (hs:s.size = 16) (D:Array Value) (hD:D = blC s.data.toList) (w:World) (hC:Cip w c ks n len) :
   Calls Tryz.prog 153 #[.pointer (some ⟨c,0,none⟩),.string s] w fun e w' => e = .returned (.tuple #[.agg D,.int .i64 0]) /\ Since w w':=by
 have hns:(s.size:Int) = 16:=by omega
 have c1:=fun w' (h:Since w w') => size_ret c len w' (hC.since h).ln
 have hs0:Since w ((w.alloc (.cells Z16 159)).alloc (.cells Z16 159)):=((Since.refl w).alloc _).alloc _
 have hb0:((w.alloc (.cells Z16 159)).alloc (.cells Z16 159)).heap[w.heap.size]? = some (.cells Z16 159 (0,0)):=(Go.heap_alloc_old _ _ (by simp)).trans (Go.heap_alloc_new _ _)
 have hr1:((w.alloc (.cells Z16 159)).alloc (.cells Z16 159)).rowIs (w.heap.size + 1) 159 16 (fun _ => .int .u8 0):=by
   have h:=zrow (w.alloc (.cells Z16 159)) 159 Z16 rfl z16
   simp only [World.size_alloc'] at h
   exact h
 obtain ⟨w3,hrun,hrow,hbel⟩:=run_copy_str _ s (w.heap.size + 1) 159 0 16 16 16 3 (fun _ => .int .u8 0) (some ⟨w.heap.size + 1,0,none⟩) hr1 (fun _ => rfl) (by omega) (by omega)
 have hs3:=hbel w.heap.size w hs0 (Nat.le_add_right _ _)
 have hb3:=((hbel (w.heap.size + 1) _ (Below.refl _ _) (Nat.le_refl _)).block w.heap.size (by omega)).trans hb0
 have hd3:w3.heap[w.heap.size + 1]? = some (.cells D 159 (0,0)):=by
   rw [hD]
   refine row_bl hrow fun j hj => ?_
   unfold putAt blV ent
   rw [if_pos ⟨Nat.zero_le _,by show j < 0 + s.size; omega⟩,Nat.sub_zero]
 have hsl:∀ w',(Instr.sliceAt 159 (.pointer (some ⟨w.heap.size + 1,0,none⟩)) none none none).run Tryz.prog w' = .ok (.slice (some ⟨w.heap.size + 1,0,none⟩) 16 16) w':=slice_b _ _
 have iD:(Tryz.prog.info? 159).map (·.size) = some D.size:=by rw [hD,blC_size]; exact i16
 have hDs:D.size = 16:=by rw [hD,blC_size]
 have hD1:D.all (·.oneCell') = true:=by rw [hD]; exact blC_one _
 unfold Z16 at hrun
 have Hs0:=lH hs0
 clear hs0
 have Hrun:=lH hrun
 clear hrun
 have Hs3:=lH hs3
 clear hs3
 have Hb3:=lH hb3
 clear hb3
 have Hd3:=lH hd3
 clear hd3
 have H_iD:=lH iD
 clear iD
 have HDs:=lH hDs
 clear hDs
 have HD1:=lH hD1
 clear hD1
 clear hC hs hD hbel hrow hr1 hb0
 go_enter Tryz.func153,Tryz.ntmps153
 go_wp2_with fail
 refine (c1 _ Hs0.out).mono ?_
 rintro e w2 ⟨rfl,rfl⟩
 go_wp2_with (first
   | ((with_reducible refine Lib.wpList_copy_run (P:=Tryz.prog) _ (o:=⟨some 17,_,_,_,_,_⟩) ?_ (.tmp 15) (.tmp 16) 114 9 ?_ _ _ ?_ ?_ Hrun.out ?_) <;> try rfl)
   | (refine wpList_load_row rfl 159 _ rfl (w.heap.size + 1) (by rfl) _ D _ _ Hd3.out Tryz.underlying159 rfl H_iD.out ?_) | (refine wpList_store_row rfl 159 _ _ rfl w.heap.size D (by rfl) (by rfl) _ _ Hb3.out H_iD.out (by rw [HDs.out]; rfl) HD1.out ?_))
 exact bodyPost_ret (v:=.tuple #[.agg D,.int .i64 0]) (results_row_tmp Tryz.results153 _ _ w.heap.size _ _ _ _ _ rfl rfl (setRow_heap _ _ _ _ _ _ Hb3.out) Tryz.underlying159 rfl H_iD.out) rfl ⟨rfl,below_setRow Hs3.out (Nat.le_refl _) _⟩
theorem key_load (w:World) (c:Nat) (ks:List ByteArray) (n:Nat) (len:Int) (hC:Cip w c ks n len) (j o:Nat) (hj:j <= n) (ho:o = 1794 + 16 * j) (D:Array Value) (hD:D = blC (rk ks j)) :
   (Instr.loadAt 159 (.pointer (some ⟨c,o,none⟩))).run Tryz.prog w = .ok (.agg D) w:=by
 have h:=run_loadAt_mid (P:=Tryz.prog) w c o 159 (blC (rk ks j)).toList _ (fun i v hv => by
   have hi:i < 16:=by
     have h1:=(List.getElem?_eq_some_iff.1 hv).1
     rw [Array.length_toList,blC_size] at h1
     exact h1
   rw [Array.getElem?_toList,blC_at _ _ hi] at hv
   rw [ho,<- Option.some.inj hv]
   exact hC.ky j hj i hi) Tryz.underlying159 rfl (by rw [Array.length_toList,blC_size]; exact i16)
 rw [h,hD]
theorem row_load (w:World) (b:Nat) (D:Array Value) (hs:D.size = 16) (h:w.heap[b]? = some (.cells D 159 (0,0))):(Instr.loadAt 159 (.pointer (some ⟨b,0,none⟩))).run Tryz.prog w = .ok (.agg D) w:=by
 simp only [Instr.loadAt,Instr.sureAddr,Sem.run_bind,Sem.run_pure,Result.andThen_ok]
 exact run_loadVar_row w b _ _ D _ _ h Tryz.underlying159 rfl (by rw [hs]; exact i16)
theorem row_set {w:World} {b:Nat} {C D:Array Value} {t:TypeId} (h:w.heap[b]? = some (.cells C t (0,0))):(w.setRow b D).heap[b]? = some (.cells D t (0,0)):=setRow_heap _ _ _ _ _ _ h
end Aes
namespace Aes
open Rnd
theorem conv16 (l:List UInt8) (hl:l.length = 16) (w:World) (b:Nat) (h:w.heap[b]? = some (.cells (blC l) 159 (0,0))) :
   (convert 114 9 (.slice (some ⟨b,0,none⟩) 16 16)).run Tryz.prog w = .ok (.string (bs l)) w:=by
 have hr:=bl_row h
 have g:=run_convert_bytes_arg (P:=Tryz.prog) w 114 5 Tryz.underlying114 Tryz.underlying5 b 0 16 16 (l.map fun c => (c.toNat:Int)) (by rw [List.length_map,hl]) (fun i hi => by
   rw [Nat.zero_add,hr.cell hi]
   unfold blV ent
   simp [List.getD,List.getElem?_eq_getElem (show i < l.length by omega)]) 9 Tryz.underlying9
 rw [g]
 rw [nums_bytes]
set_option maxHeartbeats 2000000 in
theorem enc_yes (c:Nat) (ks:List ByteArray) (n:Nat) (hn14:n <= 14) (hn1:1 <= n) (len:Int) (hn:(len == 0) = false) (s:ByteArray) (hs:s.size = 16) (X:ByteArray) (hX:X = bs (encL ks n s.data.toList)) (w:World) (hC:Cip w c ks n len) :
   Calls Tryz.prog 104 #[.pointer (some ⟨c,0,none⟩),.string s] w fun e w' => e = .returned (.tuple #[.string X,.int .i64 0]) /\ Since w w':=by
 have hl:s.data.toList.length = 16:=hs
 obtain ⟨D,hD⟩:∃ D,D = blC s.data.toList:=⟨_,rfl⟩
 obtain ⟨K0,hK0⟩:∃ K,K = blC (rk ks 0):=⟨_,rfl⟩
 obtain ⟨E0,hE0⟩:∃ E,E = blC (fwdL ks n s.data.toList 0):=⟨_,rfl⟩
 have hDs:D.size = 16:=by rw [hD,blC_size]
 have hD1:D.all (·.oneCell') = true:=by rw [hD]; exact blC_one _
 have hE0s:E0.size = 16:=by rw [hE0,blC_size]
 have hE01:E0.all (·.oneCell') = true:=by rw [hE0]; exact blC_one _
 have iD:(Tryz.prog.info? 159).map (·.size) = some D.size:=by rw [hDs]; exact i16
 have iE0:(Tryz.prog.info? 159).map (·.size) = some E0.size:=by rw [hE0s]; exact i16
 have HC1:=lH (read_yes c ks n len hn s hs D hD w hC)
 have HA:=lH (add_mak s.data.toList (rk ks 0) D K0 E0 hD hK0 hE0)
 have HC:=lH hC
 have HX:=lH hX
 clear hC hX hs hD
 have HDs:=lH hDs
 clear hDs
 have HD1:=lH hD1
 clear hD1
 have HE0s:=lH hE0s
 clear hE0s
 have HE01:=lH hE01
 clear hE01
 have H_iD:=lH iD
 clear iD
 have H_iE0:=lH iE0
 clear iE0
 have HE0:=lH hE0
 clear hE0
 have HK0:=lH hK0
 clear hK0
 go_enter Tryz.func104,Tryz.ntmps104
 go_wp2_with fail
 refine HC1.out.mono ?_
 rintro e w2 ⟨rfl,h2⟩
 have hset:=World.setRow_alloc_new w2 Z16 D 159
 have hb2:=Go.heap_alloc_new w2 (.cells D 159)
 have hz2:=Go.heap_alloc_new w2 (.cells Z16 159)
 have hs2:Since w (w2.alloc (.cells D 159)):=Since.alloc h2 _
 obtain ⟨b,hb⟩:∃ b,b = w2.heap.size:=⟨_,rfl⟩
 have hg:w.heap.size <= b:=by rw [hb]; exact Below.size h2
 unfold Z16 at hset
 have Hset:=lH hset
 clear hset
 have Hz2:=lH hz2
 clear hz2
 go_wp2_with (refine wpList_store_row rfl 159 _ _ rfl w2.heap.size D (by rfl) (by rfl) _ _ Hz2.out H_iD.out (by rw [HDs.out]; rfl) HD1.out ?_; rw [Hset.out])
 rw [<- hb] at hb2 ⊢
 obtain ⟨W,hW⟩:∃ W,W = w2.alloc (.cells D 159):=⟨_,rfl⟩
 rw [<- hW] at hb2 hs2 ⊢
 have l1:(Instr.loadAt 159 (.pointer (some ⟨b,0,none⟩))).run Tryz.prog W.drew = .ok (.agg D) W.drew:=row_load _ _ _ HDs.out hb2
 have l2:(Instr.loadAt 159 (.pointer (some ⟨c,1794,none⟩))).run Tryz.prog W.drew = .ok (.agg K0) W.drew:=key_load _ _ _ _ _ (HC.out.since (Since.drew hs2)) 0 _ (by omega) rfl _ HK0.out
 clear hW hb Hset Hz2 h2
 have Hb2:=lH hb2
 clear hb2
 have Hs2:=lH hs2
 clear hs2
 have Hg:=lH hg
 clear hg
 refine wp_region_still_tail 6 (by kernel_rfl) (by kernel_rfl) ?_
 simp only [List.take_succ_cons,List.take_zero,List.drop_succ_cons,List.drop_zero]
 change wpStill _ _ W.drew (fun a' => wpList _ _ _ _ a' W.drew) _ _
 repeat (first
   | ((with_reducible refine wpStill_load (some 18) 159 (.tmp 6) _ _ ?_ l1 ?_) <;> try rfl)
   | ((with_reducible refine wpStill_load (some 23) 159 (.tmp 22) _ _ ?_ l2 ?_) <;> try rfl)
   | (refine wpStill_step (fun K hK => ?_); go_simp; refine hK _ ?_; clear hK K))
 refine wpStill_nil ?_
 go_wp2_with fail
 refine (HA.out _).mono ?_
 rintro e w3 ⟨rfl,h3⟩
 have hb3:=(h3.block b (by have:=lt_of_heap Hb2.out; simp; omega)).trans Hb2.out
 have hs3:=Since.step (Since.drew Hs2.out) h3
 clear h3 l1 l2 Hb2 Hs2
 have HB4:=lH (row_set (D:=E0) hb3)
 have HS4:Hid (Since w (w3.setRow b E0)):=lH (below_setRow hs3 Hg.out _)
 have Hb3:=lH hb3
 clear hb3
 have Hs3:=lH hs3
 clear hs3
 go_wp2_with (refine wpList_store_row rfl 159 _ _ rfl b E0 (by rfl) (by rfl) _ _ Hb3.out H_iE0.out (by rw [HDs.out,HE0s.out]) HE01.out ?_)
 go_loopw [8] (fun i wr => ∃ j:Nat,1 <= j /\ j <= n + 1 /\ i = .int .i64 (j:Int) /\ Hid (wr.heap[b]? = some (.cells (blC (fwdL ks n s.data.toList (j - 1))) 159 (0,0))) /\ Hid (Since w wr)) (fun i _ => n + 1 - (intOf i).toNat)
 case atStart => exact ⟨1,by omega,by omega,rfl,lH (by rw [show 1 - 1 = 0 from rfl,<- HE0.out]; exact HB4.out),HS4⟩
 case round =>
   clear HB4 HS4 Hb3 Hs3
   obtain ⟨j,hj1,hj2,rfl,HB,HS⟩:=hrel
   have hcn:=(HC.out.since HS.out).rd
   by_cases hlt:j <= n
   · have hd:decide ((j:Int) <= (n:Int)) = true:=decide_eq_true (by omega)
     obtain ⟨F,hF⟩:∃ F,F = blC (fwdL ks n s.data.toList (j - 1)):=⟨_,rfl⟩
     rw [<- hF] at HB
     obtain ⟨Kj,hKj⟩:∃ K,K = blC (rk ks j):=⟨_,rfl⟩
     obtain ⟨E,hE⟩:∃ E,E = blC (fwdL ks n s.data.toList j):=⟨_,rfl⟩
     obtain ⟨q,hq⟩:∃ q,q = decide (j = n):=⟨_,rfl⟩
     have hqe:((j:Int) == (n:Int)) = q:=by
       rw [hq]
       by_cases h:j = n
       · rw [decide_eq_true h,beq_iff_eq,h]
       · rw [decide_eq_false h,beq_eq_false_iff_ne]; omega
     have hEe:E = blC (doL q (fwdL ks n s.data.toList (j - 1)) (rk ks j)):=by
       obtain ⟨m,rfl⟩:∃ m,j = m + 1:=⟨j - 1,by omega⟩
       rw [hE,hq]; rfl
     have c1:=do_calls (fwdL ks n s.data.toList (j - 1)) (rk ks j) (fwdL_len _ _ _ _) c q F Kj E hF hKj hEe wr.drew ((HC.out.since HS.out).tb.since (Since.drew (Since.refl _)))
     have l1:(Instr.loadAt 159 (.pointer (some ⟨b,0,none⟩))).run Tryz.prog wr.drew = .ok (.agg F) wr.drew:=row_load _ _ _ (by rw [hF,blC_size]) HB.out
     have l2:(Instr.loadAt 159 (.pointer (some ⟨c,1794 + j * 16,none⟩))).run Tryz.prog wr.drew = .ok (.agg Kj) wr.drew:=key_load _ _ _ _ _ (HC.out.since (Since.drew HS.out)) j _ (by omega) (by omega) _ hKj
     have i1:(0:Int) <= (j:Int):=by omega
     have i2:(j:Int) < 15:=by omega
     have hFs:F.size = 16:=by rw [hF,blC_size]
     have hEs:E.size = 16:=by rw [hE,blC_size]
     have hE1:E.all (·.oneCell') = true:=by rw [hE]; exact blC_one _
     have iE:(Tryz.prog.info? 159).map (·.size) = some E.size:=by rw [hEs]; exact i16
     clear hq hEe hF hKj
     have HE:=lH hE
     clear hE
     have HFs:=lH hFs
     clear hFs
     have HEs:=lH hEs
     clear hEs
     have HE1:=lH hE1
     clear hE1
     have H_iE:=lH iE
     clear iE
     have H_c1:=lH c1
     clear c1
     go_wp2_with fail
     refine wp_region_still_tail 16 (by kernel_rfl) (by kernel_rfl) ?_
     simp only [List.take_succ_cons,List.take_zero,List.drop_succ_cons,List.drop_zero]
     change wpStill _ _ wr.drew (fun a' => wpList _ _ _ _ a' wr.drew) _ _
     repeat (first
       | ((with_reducible refine wpStill_load (some 36) 159 (.tmp 6) _ _ ?_ l1 ?_) <;> try rfl)
       | ((with_reducible refine wpStill_load (some 42) 159 (.tmp 41) _ _ ?_ l2 ?_) <;> try rfl)
       | (refine wpStill_step (fun K hK => ?_); go_simp; refine hK _ ?_; clear hK K))
     refine wpStill_nil ?_
     go_wp2_with fail
     refine H_c1.out.mono ?_
     rintro e w3 ⟨rfl,h3⟩
     have hb3:=(h3.block b (by have:=lt_of_heap HB.out; simp; omega)).trans HB.out
     have hs3:=Since.step (Since.drew HS.out) h3
     clear h3 l1 l2
     have HB4:=lH (row_set (D:=E) hb3)
     have HS4:Hid (Since w (w3.setRow b E)):=lH (below_setRow hs3 Hg.out _)
     have Hb3:=lH hb3
     clear hb3
     have Hs3:=lH hs3
     clear hs3
     go_wp2_with (refine wpList_store_row rfl 159 _ _ rfl b E (by rfl) (by rfl) _ _ Hb3.out H_iE.out (by rw [HFs.out,HEs.out]) HE1.out ?_)
     go_roundw
     case rel => exact ⟨j + 1,by omega,by omega,by go_num,lH (by rw [Nat.add_sub_cancel,<- HE.out]; exact HB4.out),HS4⟩
     case measure => simp [intOf]; omega
   · have hd:decide ((j:Int) <= (n:Int)) = false:=decide_eq_false (by omega)
     have hsl:∀ w',(Instr.sliceAt 159 (.pointer (some ⟨b,0,none⟩)) none none none).run Tryz.prog w' = .ok (.slice (some ⟨b,0,none⟩) 16 16) w':=slice_b _ _
     have hcv:=conv16 _ (fwdL_len ks n s.data.toList (j - 1)) wr b HB.out
     rw [show bs (fwdL ks n s.data.toList (j - 1)) = X from by rw [HX.out,encL,show j - 1 = n from by omega]] at hcv
     go_wp2_with fail
     go_ret2
     exact ⟨rfl,HS.out⟩
end Aes
namespace Aes
open Rnd
set_option maxHeartbeats 4000000 in
theorem dec_yes (c:Nat) (ks:List ByteArray) (n:Nat) (hn14:n <= 14) (hn1:1 <= n) (len:Int) (hn:(len == 0) = false) (s:ByteArray) (hs:s.size = 16) (X:ByteArray) (hX:X = bs (decL ks n s.data.toList)) (w:World) (hC:Cip w c ks n len) :
   Calls Tryz.prog 120 #[.pointer (some ⟨c,0,none⟩),.string s] w fun e w' => e = .returned (.tuple #[.string X,.int .i64 0]) /\ Since w w':=by
 have HL:Hid (s.data.toList.length = 16):=lH hs
 obtain ⟨D,hD⟩:∃ D,D = blC s.data.toList:=⟨_,rfl⟩
 have hDs:D.size = 16:=by rw [hD,blC_size]
 have hD1:D.all (·.oneCell') = true:=by rw [hD]; exact blC_one _
 have iD:(Tryz.prog.info? 159).map (·.size) = some D.size:=by rw [hDs]; exact i16
 have HC1:=lH (read_yes c ks n len hn s hs D hD w hC)
 have HC:=lH hC
 have HX:=lH hX
 clear hC hX hs
 have HDs:=lH hDs
 clear hDs
 have HD1:=lH hD1
 clear hD1
 have H_iD:=lH iD
 clear iD
 have HD:=lH hD
 clear hD
 go_enter Tryz.func120,Tryz.ntmps120
 go_wp2_with fail
 refine wp_scope_jumps 0 (fun a' w' => ∃ (b j:Nat) (i:Int) (u1 u2 u3 u4 u5 u7 u9 u10 u11 u12 u13 u14 u15 u16 u17 u18 u19 u20 u21 u22 u23 u24 u25 u26 u27 u28 u29 u30 u31 u32 u33 u34 u35 u36 u37 u38 u39 u40 u41 u42 u43 u44 u45 u46 u47 u48 u49 u50 u51:Value),a' = { tmps:=#[.pointer (some ⟨c,0,none⟩),u1,u2,u3,u4,u5,.pointer (some ⟨b,0,none⟩),u7,.int .i64 i,u9,u10,u11,u12,u13,u14,u15,u16,u17,u18,u19,u20,u21,u22,u23,u24,u25,u26,u27,u28,u29,u30,u31,u32,u33,u34,u35,u36,u37,u38,u39,u40,u41,u42,u43,u44,u45,u46,u47,u48,u49,u50,u51],defers:=[] } /\ i = (j:Int) /\ 1 <= j /\ j <= n /\ Hid (w.heap.size <= b) /\ Hid (w'.heap[b]? = some (.cells (blC (bwdL ks n s.data.toList (n - j))) 159 (0,0))) /\ Hid (Since w w')) (fun a' _ => (intOf (a'.tmps.getD 8 undef)).toNat) rfl ?_ ?_
 · go_wp2_with fail
   refine HC1.out.mono ?_
   rintro e w2 ⟨rfl,h2⟩
   have hset:=World.setRow_alloc_new w2 Z16 D 159
   have hb2:=Go.heap_alloc_new w2 (.cells D 159)
   have hz2:=Go.heap_alloc_new w2 (.cells Z16 159)
   have hs2:Since w (w2.alloc (.cells D 159)):=Since.alloc h2 _
   obtain ⟨b,hb⟩:∃ b,b = w2.heap.size:=⟨_,rfl⟩
   have hg:w.heap.size <= b:=by rw [hb]; exact Below.size h2
   have hcn:=(HC.out.since hs2).rd
   unfold Z16 at hset
   have Hset:=lH hset
   clear hset
   have Hz2:=lH hz2
   clear hz2
   go_wp2_with (refine wpList_store_row rfl 159 _ _ rfl w2.heap.size D (by rfl) (by rfl) _ _ Hz2.out H_iD.out (by rw [HDs.out]; rfl) HD1.out ?_; rw [Hset.out])
   rw [<- hb] at hb2 ⊢
   obtain ⟨W,hW⟩:∃ W,W = w2.alloc (.cells D 159):=⟨_,rfl⟩
   rw [<- hW] at hb2 hs2 hcn ⊢
   obtain ⟨j,hj⟩:∃ j,j = n:=⟨_,rfl⟩
   have hjn:(n:Int) = (j:Int):=by rw [hj]
   have HB:Hid (W.heap[b]? = some (.cells (blC (bwdL ks n s.data.toList (n - j))) 159 (0,0))):=lH (by rw [hj,Nat.sub_self,bwdL,<- HD.out]; exact hb2)
   have HS:=lH hs2
   have Hg:=lH hg
   have hj1:1 <= j:=by omega
   have hjn2:j <= n:=by omega
   rw [hjn]
   clear hb2 hs2 hcn hg hb hW h2 Hset Hz2 hj hjn
   go_step3
   have hcn:=(HC.out.since HS.out).rd
   obtain ⟨F,hF⟩:∃ F,F = blC (bwdL ks n s.data.toList (n - j)):=⟨_,rfl⟩
   rw [<- hF] at HB
   obtain ⟨Kj,hKj⟩:∃ K,K = blC (rk ks j):=⟨_,rfl⟩
   obtain ⟨E,hE⟩:∃ E,E = blC (bwdL ks n s.data.toList (n - (j - 1))):=⟨_,rfl⟩
   obtain ⟨q,hq⟩:∃ q,q = decide (j = n):=⟨_,rfl⟩
   have hqe:((j:Int) == (n:Int)) = q:=by
     rw [hq]
     by_cases h:j = n
     · rw [decide_eq_true h,beq_iff_eq,h]
     · rw [decide_eq_false h,beq_eq_false_iff_ne]; omega
   have hEe:E = blC (undoL q (bwdL ks n s.data.toList (n - j)) (rk ks j)):=by
     rw [hE,hq,show n - (j - 1) = (n - j) + 1 from by omega,bwdL,show n - (n - j) = j from by omega]
   have c1:=undo_calls (bwdL ks n s.data.toList (n - j)) (rk ks j) (bwdL_len _ _ _ HL.out _) c q F Kj E hF hKj hEe W.drew ((HC.out.since HS.out).tb.since (Since.drew (Since.refl _)))
   have l1:(Instr.loadAt 159 (.pointer (some ⟨b,0,none⟩))).run Tryz.prog W.drew = .ok (.agg F) W.drew:=row_load _ _ _ (by rw [hF,blC_size]) HB.out
   have l2:(Instr.loadAt 159 (.pointer (some ⟨c,1794 + j * 16,none⟩))).run Tryz.prog W.drew = .ok (.agg Kj) W.drew:=key_load _ _ _ _ _ (HC.out.since (Since.drew HS.out)) j _ (by omega) (by omega) _ hKj
   have i1:(0:Int) <= (j:Int):=by omega
   have i2:(j:Int) < 15:=by omega
   have hFs:F.size = 16:=by rw [hF,blC_size]
   have hEs:E.size = 16:=by rw [hE,blC_size]
   have hE1:E.all (·.oneCell') = true:=by rw [hE]; exact blC_one _
   have iE:(Tryz.prog.info? 159).map (·.size) = some E.size:=by rw [hEs]; exact i16
   clear hq hEe hF hKj
   have HE:=lH hE
   clear hE
   have HFs:=lH hFs
   clear hFs
   have HEs:=lH hEs
   clear hEs
   have HE1:=lH hE1
   clear hE1
   have H_iE:=lH iE
   clear iE
   have H_c1:=lH c1
   clear c1
   go_wp2_with fail
   refine wp_region_still_tail 16 (by kernel_rfl) (by kernel_rfl) ?_
   simp only [List.take_succ_cons,List.take_zero,List.drop_succ_cons,List.drop_zero]
   change wpStill _ _ W.drew (fun a' => wpList _ _ _ _ a' W.drew) _ _
   repeat (first
     | ((with_reducible refine wpStill_load (some 25) 159 (.tmp 6) _ _ ?_ l1 ?_) <;> try rfl)
     | ((with_reducible refine wpStill_load (some 31) 159 (.tmp 30) _ _ ?_ l2 ?_) <;> try rfl)
     | (refine wpStill_step (fun K hK => ?_); go_simp; refine hK _ ?_; clear hK K))
   refine wpStill_nil ?_
   go_wp2_with fail
   refine H_c1.out.mono ?_
   rintro e w3 ⟨rfl,h3⟩
   have hb3:=(h3.block b (by have:=lt_of_heap HB.out; simp; omega)).trans HB.out
   have hs3:=Since.step (Since.drew HS.out) h3
   clear h3 l1 l2 HB HS hcn
   have HB4:=lH (row_set (D:=E) hb3)
   have HS4:Hid (Since w (w3.setRow b E)):=lH (below_setRow hs3 Hg.out _)
   have Hb3:=lH hb3
   clear hb3
   have Hs3:=lH hs3
   clear hs3
   by_cases hj2:1 < j
   · have hd:decide ((0:Int) < (j:Int) - 1) = true:=decide_eq_true (by omega)
     have hd2:decide ((1:Int) < (j:Int)) = true:=decide_eq_true (by omega)
     go_wp2_with (refine wpList_store_row rfl 159 _ _ rfl b E (by rfl) (by rfl) _ _ Hb3.out H_iE.out (by rw [HFs.out,HEs.out]) HE1.out ?_)
     go_step3
     have ej:((j - 1:Nat):Int) = (j:Int) - 1:=by omega
     exact ⟨rfl,b,j - 1,_,_,_,_,_,_,_,_,_,_,_,_,_,_,_,_,_,_,_,_,_,_,_,_,_,_,_,_,_,_,_,_,_,_,_,_,_,_,_,_,_,_,_,_,_,_,_,_,_,_,rfl,by omega,by omega,by omega,Hg,lH (by rw [<- HE.out]; exact HB4.out),HS4⟩
   · obtain ⟨K0,hK0⟩:∃ K,K = blC (rk ks 0):=⟨_,rfl⟩
     obtain ⟨G,hG⟩:∃ E,E = blC (decL ks n s.data.toList):=⟨_,rfl⟩
     have hG2:G = blC (xorL (bwdL ks n s.data.toList (n - (j - 1))) (rk ks 0)):=by
       rw [hG,decL,show n - (j - 1) = n from by omega]
     have ca:=add_mak _ _ E K0 G HE.out hK0 hG2
     have hd:decide ((0:Int) < (j:Int) - 1) = false:=decide_eq_false (by omega)
     have hd2:decide ((1:Int) < (j:Int)) = false:=decide_eq_false (by omega)
     obtain ⟨W,hW⟩:∃ W,W = w3.setRow b E:=⟨_,rfl⟩
     have hWW:=hW
     rw [<- hW] at HB4 HS4
     have l1:(Instr.loadAt 159 (.pointer (some ⟨b,0,none⟩))).run Tryz.prog W.drew = .ok (.agg E) W.drew:=row_load _ _ _ HEs.out HB4.out
     have l2:(Instr.loadAt 159 (.pointer (some ⟨c,1794,none⟩))).run Tryz.prog W.drew = .ok (.agg K0) W.drew:=key_load _ _ _ _ _ (HC.out.since (Since.drew HS4.out)) 0 _ (by omega) rfl _ hK0
     have hGs:G.size = 16:=by rw [hG,blC_size]
     have hG1:G.all (·.oneCell') = true:=by rw [hG]; exact blC_one _
     have iG:(Tryz.prog.info? 159).map (·.size) = some G.size:=by rw [hGs]; exact i16
     clear hW hG2 hK0
     have HG:=lH hG
     clear hG
     have HGs:=lH hGs
     clear hGs
     have HG1:=lH hG1
     clear hG1
     have H_iG:=lH iG
     clear iG
     have H_ca:=lH ca
     clear ca
     have HWW:=lH hWW
     clear hWW
     go_wp2_with (refine wpList_store_row rfl 159 _ _ rfl b E (by rfl) (by rfl) _ _ Hb3.out H_iE.out (by rw [HFs.out,HEs.out]) HE1.out ?_)
     rw [<- HWW.out]
     refine wp_region_still_tail 6 (by kernel_rfl) (by kernel_rfl) ?_
     simp only [List.take_succ_cons,List.take_zero,List.drop_succ_cons,List.drop_zero]
     change wpStill _ _ W.drew (fun a' => wpList _ _ _ _ a' W.drew) _ _
     repeat (first
       | ((with_reducible refine wpStill_load (some 43) 159 (.tmp 6) _ _ ?_ l1 ?_) <;> try rfl)
       | ((with_reducible refine wpStill_load (some 48) 159 (.tmp 47) _ _ ?_ l2 ?_) <;> try rfl)
       | (refine wpStill_step (fun K hK => ?_); go_simp; refine hK _ ?_; clear hK K))
     refine wpStill_nil ?_
     go_wp2_with fail
     refine (H_ca.out _).mono ?_
     rintro e w4 ⟨rfl,h4⟩
     have hb5:=(h4.block b (by have:=lt_of_heap HB4.out; simp; omega)).trans HB4.out
     have hs5:=Since.step (Since.drew HS4.out) h4
     clear h4 l1 l2
     have HB6:=lH (row_set (D:=G) hb5)
     have HS6:Hid (Since w (w4.setRow b G)):=lH (below_setRow hs5 Hg.out _)
     have hsl:∀ w',(Instr.sliceAt 159 (.pointer (some ⟨b,0,none⟩)) none none none).run Tryz.prog w' = .ok (.slice (some ⟨b,0,none⟩) 16 16) w':=slice_b _ _
     have hcv:=conv16 _ (decL_len ks n s.data.toList) (w4.setRow b G) b (by rw [<- HG.out]; exact HB6.out)
     rw [<- HX.out] at hcv
     have Hb5:=lH hb5
     clear hb5
     have Hs5:=lH hs5
     clear hs5
     go_wp2_with (refine wpList_store_row rfl 159 _ _ rfl b G (by rfl) (by rfl) _ _ Hb5.out H_iG.out (by rw [HEs.out,HGs.out]) HG1.out ?_)
     simp only [Exit.jump]
     go_ret2
     exact ⟨rfl,HS6.out⟩
 · rintro a' w' ⟨b,j,i,u1,u2,u3,u4,u5,u7,u9,u10,u11,u12,u13,u14,u15,u16,u17,u18,u19,u20,u21,u22,u23,u24,u25,u26,u27,u28,u29,u30,u31,u32,u33,u34,u35,u36,u37,u38,u39,u40,u41,u42,u43,u44,u45,u46,u47,u48,u49,u50,u51,rfl,rfl,hj1,hjn2,Hg,HB,HS⟩
   have hcn:=(HC.out.since HS.out).rd
   obtain ⟨F,hF⟩:∃ F,F = blC (bwdL ks n s.data.toList (n - j)):=⟨_,rfl⟩
   rw [<- hF] at HB
   obtain ⟨Kj,hKj⟩:∃ K,K = blC (rk ks j):=⟨_,rfl⟩
   obtain ⟨E,hE⟩:∃ E,E = blC (bwdL ks n s.data.toList (n - (j - 1))):=⟨_,rfl⟩
   obtain ⟨q,hq⟩:∃ q,q = decide (j = n):=⟨_,rfl⟩
   have hqe:((j:Int) == (n:Int)) = q:=by
     rw [hq]
     by_cases h:j = n
     · rw [decide_eq_true h,beq_iff_eq,h]
     · rw [decide_eq_false h,beq_eq_false_iff_ne]; omega
   have hEe:E = blC (undoL q (bwdL ks n s.data.toList (n - j)) (rk ks j)):=by
     rw [hE,hq,show n - (j - 1) = (n - j) + 1 from by omega,bwdL,show n - (n - j) = j from by omega]
   have c1:=undo_calls (bwdL ks n s.data.toList (n - j)) (rk ks j) (bwdL_len _ _ _ HL.out _) c q F Kj E hF hKj hEe w'.drew ((HC.out.since HS.out).tb.since (Since.drew (Since.refl _)))
   have l1:(Instr.loadAt 159 (.pointer (some ⟨b,0,none⟩))).run Tryz.prog w'.drew = .ok (.agg F) w'.drew:=row_load _ _ _ (by rw [hF,blC_size]) HB.out
   have l2:(Instr.loadAt 159 (.pointer (some ⟨c,1794 + j * 16,none⟩))).run Tryz.prog w'.drew = .ok (.agg Kj) w'.drew:=key_load _ _ _ _ _ (HC.out.since (Since.drew HS.out)) j _ (by omega) (by omega) _ hKj
   have i1:(0:Int) <= (j:Int):=by omega
   have i2:(j:Int) < 15:=by omega
   have hFs:F.size = 16:=by rw [hF,blC_size]
   have hEs:E.size = 16:=by rw [hE,blC_size]
   have hE1:E.all (·.oneCell') = true:=by rw [hE]; exact blC_one _
   have iE:(Tryz.prog.info? 159).map (·.size) = some E.size:=by rw [hEs]; exact i16
   clear hq hEe hF hKj
   have HE:=lH hE
   clear hE
   have HFs:=lH hFs
   clear hFs
   have HEs:=lH hEs
   clear hEs
   have HE1:=lH hE1
   clear hE1
   have H_iE:=lH iE
   clear iE
   have H_c1:=lH c1
   clear c1
   go_wp2_with fail
   refine wp_region_still_tail 16 (by kernel_rfl) (by kernel_rfl) ?_
   simp only [List.take_succ_cons,List.take_zero,List.drop_succ_cons,List.drop_zero]
   change wpStill _ _ w'.drew (fun a' => wpList _ _ _ _ a' w'.drew) _ _
   repeat (first
     | ((with_reducible refine wpStill_load (some 25) 159 (.tmp 6) _ _ ?_ l1 ?_) <;> try rfl)
     | ((with_reducible refine wpStill_load (some 31) 159 (.tmp 30) _ _ ?_ l2 ?_) <;> try rfl)
     | (refine wpStill_step (fun K hK => ?_); go_simp; refine hK _ ?_; clear hK K))
   refine wpStill_nil ?_
   go_wp2_with fail
   refine H_c1.out.mono ?_
   rintro e w3 ⟨rfl,h3⟩
   have hb3:=(h3.block b (by have:=lt_of_heap HB.out; simp; omega)).trans HB.out
   have hs3:=Since.step (Since.drew HS.out) h3
   clear h3 l1 l2 HB HS hcn
   have HB4:=lH (row_set (D:=E) hb3)
   have HS4:Hid (Since w (w3.setRow b E)):=lH (below_setRow hs3 Hg.out _)
   have Hb3:=lH hb3
   clear hb3
   have Hs3:=lH hs3
   clear hs3
   by_cases hj2:1 < j
   · have hd:decide ((0:Int) < (j:Int) - 1) = true:=decide_eq_true (by omega)
     have hd2:decide ((1:Int) < (j:Int)) = true:=decide_eq_true (by omega)
     go_wp2_with (refine wpList_store_row rfl 159 _ _ rfl b E (by rfl) (by rfl) _ _ Hb3.out H_iE.out (by rw [HFs.out,HEs.out]) HE1.out ?_)
     go_step3
     have ej:((j - 1:Nat):Int) = (j:Int) - 1:=by omega
     exact ⟨rfl,⟨b,j - 1,_,_,_,_,_,_,_,_,_,_,_,_,_,_,_,_,_,_,_,_,_,_,_,_,_,_,_,_,_,_,_,_,_,_,_,_,_,_,_,_,_,_,_,_,_,_,_,_,_,_,rfl,by omega,by omega,by omega,Hg,lH (by rw [<- HE.out]; exact HB4.out),HS4⟩,by simp [intOf]; omega⟩
   · obtain ⟨K0,hK0⟩:∃ K,K = blC (rk ks 0):=⟨_,rfl⟩
     obtain ⟨G,hG⟩:∃ E,E = blC (decL ks n s.data.toList):=⟨_,rfl⟩
     have hG2:G = blC (xorL (bwdL ks n s.data.toList (n - (j - 1))) (rk ks 0)):=by
       rw [hG,decL,show n - (j - 1) = n from by omega]
     have ca:=add_mak _ _ E K0 G HE.out hK0 hG2
     have hd:decide ((0:Int) < (j:Int) - 1) = false:=decide_eq_false (by omega)
     have hd2:decide ((1:Int) < (j:Int)) = false:=decide_eq_false (by omega)
     obtain ⟨W,hW⟩:∃ W,W = w3.setRow b E:=⟨_,rfl⟩
     have hWW:=hW
     rw [<- hW] at HB4 HS4
     have l1:(Instr.loadAt 159 (.pointer (some ⟨b,0,none⟩))).run Tryz.prog W.drew = .ok (.agg E) W.drew:=row_load _ _ _ HEs.out HB4.out
     have l2:(Instr.loadAt 159 (.pointer (some ⟨c,1794,none⟩))).run Tryz.prog W.drew = .ok (.agg K0) W.drew:=key_load _ _ _ _ _ (HC.out.since (Since.drew HS4.out)) 0 _ (by omega) rfl _ hK0
     have hGs:G.size = 16:=by rw [hG,blC_size]
     have hG1:G.all (·.oneCell') = true:=by rw [hG]; exact blC_one _
     have iG:(Tryz.prog.info? 159).map (·.size) = some G.size:=by rw [hGs]; exact i16
     clear hW hG2 hK0
     have HG:=lH hG
     clear hG
     have HGs:=lH hGs
     clear hGs
     have HG1:=lH hG1
     clear hG1
     have H_iG:=lH iG
     clear iG
     have H_ca:=lH ca
     clear ca
     have HWW:=lH hWW
     clear hWW
     go_wp2_with (refine wpList_store_row rfl 159 _ _ rfl b E (by rfl) (by rfl) _ _ Hb3.out H_iE.out (by rw [HFs.out,HEs.out]) HE1.out ?_)
     rw [<- HWW.out]
     refine wp_region_still_tail 6 (by kernel_rfl) (by kernel_rfl) ?_
     simp only [List.take_succ_cons,List.take_zero,List.drop_succ_cons,List.drop_zero]
     change wpStill _ _ W.drew (fun a' => wpList _ _ _ _ a' W.drew) _ _
     repeat (first
       | ((with_reducible refine wpStill_load (some 43) 159 (.tmp 6) _ _ ?_ l1 ?_) <;> try rfl)
       | ((with_reducible refine wpStill_load (some 48) 159 (.tmp 47) _ _ ?_ l2 ?_) <;> try rfl)
       | (refine wpStill_step (fun K hK => ?_); go_simp; refine hK _ ?_; clear hK K))
     refine wpStill_nil ?_
     go_wp2_with fail
     refine (H_ca.out _).mono ?_
     rintro e w4 ⟨rfl,h4⟩
     have hb5:=(h4.block b (by have:=lt_of_heap HB4.out; simp; omega)).trans HB4.out
     have hs5:=Since.step (Since.drew HS4.out) h4
     clear h4 l1 l2
     have HB6:=lH (row_set (D:=G) hb5)
     have HS6:Hid (Since w (w4.setRow b G)):=lH (below_setRow hs5 Hg.out _)
     have hsl:∀ w',(Instr.sliceAt 159 (.pointer (some ⟨b,0,none⟩)) none none none).run Tryz.prog w' = .ok (.slice (some ⟨b,0,none⟩) 16 16) w':=slice_b _ _
     have hcv:=conv16 _ (decL_len ks n s.data.toList) (w4.setRow b G) b (by rw [<- HG.out]; exact HB6.out)
     rw [<- HX.out] at hcv
     have Hb5:=lH hb5
     clear hb5
     have Hs5:=lH hs5
     clear hs5
     go_wp2_with (refine wpList_store_row rfl 159 _ _ rfl b G (by rfl) (by rfl) _ _ Hb5.out H_iG.out (by rw [HEs.out,HGs.out]) HG1.out ?_)
     simp only [Exit.jump]
     go_ret2
     exact ⟨rfl,HS6.out⟩
end Aes
namespace Aes
open Rnd
theorem cipF_lo (ks:List ByteArray) (len r:Int) (k p:Nat) (h:p < 1792):cipF ks len r k p = tabV p:=by unfold cipF; rw [if_pos h]
theorem cip_of_row {w:World} {c t:Nat} {ks:List ByteArray} {n:Nat} {len:Int} (h:w.rowIs c t 2034 (cipF ks len (n:Int) (n + 1))) (hn:n <= 14):Cip w c ks n len:=by
 refine ⟨⟨h.lt,fun p hp => ?_⟩, ?_, ?_,fun j hj i hi => ?_⟩
 · rw [h.cell (by omega),cipF_lo _ _ _ _ _ hp]
 · rw [h.cell (by omega)]; rfl
 · rw [h.cell (by omega)]; rfl
 · rw [h.cell (by omega)]
   unfold cipF
   rw [if_neg (by omega),if_neg (by omega),if_neg (by omega),if_pos (by omega),show (1794 + 16 * j + i - 1794) / 16 = j from by omega,show (1794 + 16 * j + i - 1794) % 16 = i from by omega]
theorem cip_step (ks:List ByteArray) (len r:Int) (k:Nat) (l:List UInt8) (hl:l = rk ks k) (hs:l.length = 16) (p:Nat):putAt (cipF ks len r k) (1794 + 16 * k) l p = cipF ks len r (k + 1) p:=by
 unfold putAt
 by_cases h:1794 + 16 * k <= p /\ p < 1794 + 16 * k + l.length
 · rw [if_pos h]
   unfold cipF
   rw [if_neg (by omega),if_neg (by omega),if_neg (by omega),if_pos (by omega),show (p - 1794) / 16 = k from by omega,<- hl]
   unfold blV ent
   rw [show (p - 1794) % 16 = p - (1794 + 16 * k) from by omega]
 · rw [if_neg h]
   unfold cipF
   by_cases h1:p < 1792
   · rw [if_pos h1,if_pos h1]
   · rw [if_neg h1,if_neg h1]
     by_cases h2:p = 1792
     · rw [if_pos h2,if_pos h2]
     · rw [if_neg h2,if_neg h2]
       by_cases h3:p = 1793
       · rw [if_pos h3,if_pos h3]
       · rw [if_neg h3,if_neg h3]
         by_cases h4:p < 1794 + 16 * k
         · rw [if_pos h4,if_pos (by omega)]
         · rw [if_neg h4,if_neg (by omega)]
def MakC (f:Nat) (args:Array Value) (ks:List ByteArray) (n:Nat) (len:Int):Prop:=∀ w,Calls Tryz.prog f args w fun e w' => ∃ c:Nat,e = .returned (.tuple #[.pointer (some ⟨c,0,none⟩),.int .i64 0]) /\ Cip w' c ks n len /\ Since w w'
set_option maxHeartbeats 4000000 in
theorem new_yes (key:ByteArray) (n:Nat) (hn:n = 4 ∨ n = 6 ∨ n = 8) (hk:key.size = 4 * n):MakC 146 #[.string key] (Sched.keysL key.data.toList n) (n + 6) (key.size:Int):=by
 intro w
 have H0:=lH (Since.refl w)
 have c1:=Sched.keys_yes key n hn hk
 have c2:=tables_mak
 have c3:Ret 23 #[.int .i64 (key.size:Int)] (.int .i64 ((n:Int) + 6)):=by
   rw [hk]; exact Sched.rounds_yes (4 * n) (by omega) _ (by omega)
 have hl:key.data.toList.length = 4 * n:=hk
 have hkl:=Sched.keysL_len key.data.toList n
 have hcl:=Sched.catw_len key.data.toList n (by omega) hl
 obtain ⟨ks,hks⟩:∃ ks,ks = Sched.keysL key.data.toList n:=⟨_,rfl⟩
 have hsz:∀ i,i < n + 7 -> (ks.getD i ⟨#[]⟩).size = 16:=fun i hi => by
   rw [hks]; unfold Sched.keysL Oct.pcs
   simp only [List.getD,List.getElem?_map,List.getElem?_range hi,Option.map_some,Option.getD_some]
   unfold Oct.pc
   rw [size_bs,List.length_take,List.length_drop,hcl]
   omega
 rw [<- hks] at c1 hkl ⊢
 obtain ⟨C,hC⟩:∃ C,C = tbC:=⟨_,rfl⟩
 rw [<- hC] at c2
 obtain ⟨X,hX,hXs,hX0,hX1,hX2,hX3⟩:=builtC C (by rw [hC,tbC_size]) (key.size:Int) ((n:Int) + 6)
 have hXr:∀ i,i < 2034 -> X[i]? = some (cipF ks (key.size:Int) (((n + 6:Nat)):Int) 0 i):=fun i hi => by
   by_cases h0:i < 1792
   · rw [hX0 i h0,cipF_lo _ _ _ _ _ h0,hC,tbC_at i h0]
   · by_cases h1:i = 1792
     · subst h1; rw [hX1]; rfl
     · by_cases h2:i = 1793
       · subst h2; rw [hX2]; rfl
       · rw [hX3 i (by omega) hi]
         unfold cipF
         rw [if_neg h0,if_neg h1,if_neg h2,if_neg (by omega)]
 have HBD:=lH hX
 have hKZ:Hid (ks.length = n + 7):=lH hkl
 clear hX hX0 hX1 hX2 hX3 hks hC hl hcl hkl
 have HXs:=lH hXs
 clear hXs
 have HXr:=lH hXr
 clear hXr
 have Hsz:=lH hsz
 clear hsz
 have Hk:=lH hk
 clear hk
 go_enter Tryz.func146,Tryz.ntmps146
 go_wp2_with fail
 refine c1.calls H0.out ?_
 intro v1 w1 ho1 hb1 h1
 have hlen:(((n + 7:Nat):Int)) = (n:Int) + 7:=by omega
 obtain ⟨b1,o1,cap1,hv,hlt1,hc1⟩:=Sched.StrsR.form ho1 (by rw [hKZ.out]; omega)
 rw [hKZ.out] at hv
 subst hv
 have HC1:=lH hc1
 have HL1:=lH hlt1
 have H1:=lH h1
 clear h1
 clear hb1 hc1 hlt1 ho1
 have H00:=lH (Since.refl w1)
 go_wp2_with fail
 refine c2.calls H00.out ?_
 intro w2 h2
 have H2:=lH h2
 clear h2
 go_wp2_with fail
 refine (c3).calls ?_
 go_wp2_with ((with_reducible refine wpList_build_at (some 23) 168 #[(0,.tmp 17),(1,.tmp 19),(2,.tmp 22)] _ X ?_ HBD.out ?_) <;> try rfl)
 have hrow0:(w2.alloc (.cells X 168)).rowIs w2.heap.size 168 2034 (cipF ks (key.size:Int) (((n + 6:Nat)):Int) 0):=by
   have h:=World.rowIs_alloc w2 X 168 _ (fun i hi => HXr.out i (by rw [<- HXs.out]; exact hi))
   rw [HXs.out] at h
   exact h
 have HR0:=lH hrow0
 have HS0:Hid (Since w1 (w2.alloc (.cells X 168))):=lH (Since.alloc H2.out _)
 have HG:Hid (w1.heap.size <= w2.heap.size):=lH (Below.size H2.out)
 clear hrow0 c1 c2 c3 HBD HXs HXr
 obtain ⟨g,hg⟩:∃ g,g = w2.heap.size:=⟨_,rfl⟩
 obtain ⟨W,hW⟩:∃ W,W = w2.alloc (.cells X 168):=⟨_,rfl⟩
 rw [<- hW,<- hg] at HR0
 rw [<- hW] at HS0
 rw [<- hg] at HG
 rw [<- hg,<- hW]
 clear hg hW H2 H00 H0
 go_loopw [27] (fun i wr => ∃ k:Nat,k <= n + 7 /\ i = .int .i64 (k:Int) /\ Hid (wr.rowIs g 168 2034 (cipF ks (key.size:Int) (((n + 6:Nat)):Int) k)) /\ Hid (Since w1 wr)) (fun i _ => n + 7 - (intOf i).toNat)
 case atStart => exact ⟨0,by omega,rfl,HR0,HS0⟩
 case round =>
   clear HR0 HS0
   obtain ⟨k,hk,rfl,HR,HS⟩:=hrel
   by_cases hlt:k < n + 7
   · have hd:decide ((k:Int) < (n:Int) + 7) = true:=decide_eq_true (by omega)
     have hck:=(HS.out.below.cell (p:=⟨b1,o1 + k,none⟩) HL1.out).trans (HC1.out k (by rw [hKZ.out]; exact hlt))
     have hsk:=Hsz.out k hlt
     obtain ⟨S,hS⟩:∃ S,S = ks.getD k ⟨#[]⟩:=⟨_,rfl⟩
     rw [<- hS] at hck hsk
     have hrk:S.data.toList = rk ks k:=by rw [hS]; rfl
     obtain ⟨w3,hrun,hrow,hbel⟩:=run_copy_str wr S g 168 (1794 + k * 16) 2034 16 16 3 _ (some ⟨g,1794 + k * 16,none⟩) HR.out (fun _ => rfl) (by omega) (by omega)
     have HR3:Hid (w3.rowIs g 168 2034 (cipF ks (key.size:Int) (((n + 6:Nat)):Int) (k + 1))):=lH (hrow.congr fun p _ => by rw [Nat.mul_comm k 16]; exact cip_step ks _ _ k _ hrk hsk p)
     have HS3:Hid (Since w1 w3):=lH (hbel _ _ HS.out HG.out)
     have hsl:∀ w',(Instr.sliceAt 159 (.pointer (some ⟨g,1794 + k * 16,none⟩)) none none none).run Tryz.prog w' = .ok (.slice (some ⟨g,1794 + k * 16,none⟩) 16 16) w':=slice_b _ _
     have i1:(0:Int) <= (k:Int):=by omega
     have i2:(k:Int) < (n:Int) + 7:=by omega
     have i3:(k:Int) < 15:=by omega
     clear hS hrk hrow hbel hsk
     have Hrun:=lH hrun
     clear hrun
     go_wp2_with ((with_reducible refine Lib.wpList_copy_run (P:=Tryz.prog) _ (o:=⟨some 39,_,_,_,_,_⟩) ?_ (.tmp 37) (.tmp 38) 114 9 ?_ _ _ ?_ ?_ Hrun.out ?_) <;> try rfl)
     go_roundw
     case rel => exact ⟨k + 1,by omega,by go_num,HR3,HS3⟩
     case measure => simp [intOf]; omega
   · have hd:decide ((k:Int) < (n:Int) + 7) = false:=decide_eq_false (by omega)
     have hC:=cip_of_row (n:=n + 6) (by rw [show n + 6 + 1 = k from by omega]; exact HR.out) (by omega)
     have HC:=lH hC
     clear hC
     go_wp2_with fail
     go_ret2
     exact ⟨g,rfl,HC.out,Since.step H1.out HS.out⟩
end Aes
namespace Aes
open Rnd
def CipK (w:World) (c:Nat) (key:ByteArray):Prop:=keyOk key /\ Cip w c (Sched.keysL key.data.toList (key.size / 4)) (key.size / 4 + 6) (key.size:Int)
theorem CipK.since {w w':World} {c:Nat} {key:ByteArray} (h:CipK w c key) (hs:Since w w'):CipK w' c key:=⟨h.1,h.2.since hs⟩
def MakK (f:Nat) (args:Array Value) (key:ByteArray):Prop:=∀ (W0 w:World) (_:Since W0 w) (R:Ending -> World -> Prop) (_:∀ c w',CipK w' c key -> Since w w' -> Since W0 w' -> R (.returned (.tuple #[.pointer (some ⟨c,0,none⟩),.int .i64 0])) w'),Calls Tryz.prog f args w R
theorem new_key (key:ByteArray) (hk:keyOk key):MakK 146 #[.string key] key:=by
 intro W0 w hs R k
 have hk2:=hk
 unfold keyOk at hk2
 refine (new_yes key (key.size / 4) (by omega) (by omega) w).mono fun e w' ⟨c,he,hc,hb⟩ => ?_
 subst he
 exact k c w' ⟨hk,hc⟩ hb (hs.step hb)
theorem key_ne {key:ByteArray} (hk:keyOk key):((key.size:Int) == 0) = false:=by
 unfold keyOk at hk
 rw [beq_eq_false_iff_ne]; omega
theorem key_rn {key:ByteArray} (hk:keyOk key):key.size / 4 + 6 <= 14 /\ 1 <= key.size / 4 + 6:=by
 unfold keyOk at hk; omega
theorem cenc_yes (c:Nat) (key b:ByteArray) (hb:b.size = 16) (X:ByteArray) (hX:X = encK key b) (w:World) (hC:CipK w c key):Calls Tryz.prog 104 #[.pointer (some ⟨c,0,none⟩),.string b] w fun e w' => e = .returned (.tuple #[.string X,.int .i64 0]) /\ Since w w' :=
 enc_yes c _ _ (key_rn hC.1).1 (key_rn hC.1).2 _ (key_ne hC.1) b hb X hX w hC.2
theorem cdec_yes (c:Nat) (key b:ByteArray) (hb:b.size = 16) (X:ByteArray) (hX:X = decK key b) (w:World) (hC:CipK w c key):Calls Tryz.prog 120 #[.pointer (some ⟨c,0,none⟩),.string b] w fun e w' => e = .returned (.tuple #[.string X,.int .i64 0]) /\ Since w w' :=
 dec_yes c _ _ (key_rn hC.1).1 (key_rn hC.1).2 _ (key_ne hC.1) b hb X hX w hC.2
end Aes
namespace RefAes
open Rnd Aes
theorem rk_at (ks:List ByteArray) (i:Nat) (K:ByteArray) (hK:K = ks.getD i ⟨#[]⟩):rk ks i = K.data.toList:=by rw [hK]; rfl
theorem getD_size {ks:List ByteArray} (h:∀ x ∈ ks,x.size = 16) (i:Nat) (hi:i < ks.length):(ks.getD i ⟨#[]⟩).size = 16:=by
 rw [List.getD,List.getElem?_eq_getElem hi]; exact h _ (List.getElem_mem _)
set_option maxHeartbeats 2000000 in
theorem forward_calls (ks:List ByteArray) (n:Nat) (hl:ks.length = n + 1) (hs:∀ x ∈ ks,x.size = 16) (s:ByteArray) (hs16:s.size = 16) (hn:n <= 14) (X:ByteArray) (hX:X = bs (encL ks n s.data.toList)) (w:World) (v:Value) (hv:StrsR w v ks) :
   Calls Tryz.prog 162 #[v,.string s] w fun e w' => e = .returned (.string X) /\ Since w w':=by
 obtain ⟨b,o,cap,rfl,hb,hc⟩:=Sched.StrsR.form hv (by omega)
 have H0:=lH (Since.refl w)
 have hc0:=hc 0 (by omega)
 have hz0:=getD_size hs 0 (by omega)
 rw [Nat.add_zero] at hc0
 obtain ⟨K0,hK0⟩:∃ K,K = ks.getD 0 ⟨#[]⟩:=⟨_,rfl⟩
 rw [<- hK0] at hc0 hz0
 obtain ⟨S0,hS0⟩:∃ S,S = bs (fwdL ks n s.data.toList 0):=⟨_,rfl⟩
 have c0:=RefRnd.key_mak s K0 hs16 hz0 S0 (by rw [hS0,fwdL,rk_at ks 0 K0 hK0])
 have HC:Hid (∀ i,i < ks.length -> w.cell? ⟨b,o + i,none⟩ = some (.string (ks.getD i ⟨#[]⟩))):=lH hc
 have HZ:=lH hs
 have HX:=lH hX
 have HL:=lH hl
 rw [hl]
 have i0:(0:Int) < (n:Int) + 1:=by omega
 clear hc hs hX hl hK0
 have HS0:=lH hS0
 clear hS0
 have Hs16:=lH hs16
 clear hs16
 have Hz0:=lH hz0
 clear hz0
 go_enter Tryz.func162,Tryz.ntmps162
 go_wp2_with fail
 refine (c0).calls H0.out ?_
 intro w1 h1
 have H1:=lH h1
 clear h1
 go_wp2_with fail
 go_loopw [1,5] (fun t i wr => ∃ j:Nat,1 <= j /\ j <= n + 1 /\ i = .int .i64 (j:Int) /\ (∃ S,t = .string S /\ Hid (S = bs (fwdL ks n s.data.toList (j - 1)))) /\ Hid (Since w wr)) (fun _ i _ => n + 1 - (intOf i).toNat)
 case atStart => exact ⟨1,by omega,by omega,rfl,⟨S0,rfl,HS0⟩,H1⟩
 case round =>
   obtain ⟨j,hj1,hj2,rfl,⟨S,rfl,HS⟩,HW⟩:=hrel
   by_cases hlt:j < n + 1
   · have hd:decide ((j:Int) < (n:Int) + 1) = true:=decide_eq_true (by omega)
     have hcj:=(HW.out.below.cell (p:=⟨b,o + j,none⟩) hb).trans (HC.out j (by rw [HL.out]; omega))
     have hzj:=getD_size HZ.out j (by rw [HL.out]; omega)
     obtain ⟨K,hK⟩:∃ K,K = ks.getD j ⟨#[]⟩:=⟨_,rfl⟩
     rw [<- hK] at hcj hzj
     obtain ⟨q,hq⟩:∃ q,q = decide (j = n):=⟨_,rfl⟩
     have hqe:((j:Int) == (n:Int)) = q:=by
       rw [hq]
       by_cases h:j = n
       · rw [decide_eq_true h,beq_iff_eq,h]
       · rw [decide_eq_false h,beq_eq_false_iff_ne]; omega
     obtain ⟨X1,hX1⟩:∃ X,X = bs (fwdL ks n s.data.toList j):=⟨_,rfl⟩
     have c1:=RefRnd.do_mak S K (by rw [HS.out,size_bs,fwdL_len]) hzj q X1 (by
       obtain ⟨m,rfl⟩:∃ m,j = m + 1:=⟨j - 1,by omega⟩
       rw [hX1,fwdL,rk_at ks _ K hK,HS.out,list_bs,hq]; rfl)
     have i1:(0:Int) <= (j:Int):=by omega
     have i2:(j:Int) < (n:Int) + 1:=by omega
     clear hK hq hzj
     have HX1:=lH hX1
     clear hX1
     go_wp2_with fail
     refine (c1).calls HW.out ?_
     intro w2 h2
     have H2:=lH h2
     clear h2
     go_wp2_with fail
     go_roundw
     case rel => exact ⟨j + 1,by omega,by omega,by go_num,⟨X1,rfl,HX1⟩,H2⟩
     case measure => simp [intOf]; omega
   · have hd:decide ((j:Int) < (n:Int) + 1) = false:=decide_eq_false (by omega)
     have e:S = X:=by rw [HS.out,HX.out,encL,show j - 1 = n from by omega]
     subst e
     go_wp2_with fail
     go_ret
     exact ⟨rfl,HW.out⟩
set_option maxHeartbeats 2000000 in
theorem backward_calls (ks:List ByteArray) (n:Nat) (hl:ks.length = n + 1) (hs:∀ x ∈ ks,x.size = 16) (s:ByteArray) (hs16:s.size = 16) (hn:n <= 14) (X:ByteArray) (hX:X = bs (decL ks n s.data.toList)) (w:World) (v:Value) (hv:StrsR w v ks) :
   Calls Tryz.prog 171 #[v,.string s] w fun e w' => e = .returned (.string X) /\ Since w w':=by
 obtain ⟨b,o,cap,rfl,hb,hc⟩:=Sched.StrsR.form hv (by omega)
 have H0:=lH (Since.refl w)
 have HC:Hid (∀ i,i < ks.length -> w.cell? ⟨b,o + i,none⟩ = some (.string (ks.getD i ⟨#[]⟩))):=lH hc
 have HZ:=lH hs
 have HX:=lH hX
 have HL:=lH hl
 have HS0:Hid (s = bs (bwdL ks n s.data.toList 0)):=lH (by rw [bwdL,bs_list])
 have HL0:Hid (s.data.toList.length = 16):=lH hs16
 rw [hl]
 clear hc hs hX hl hs16
 go_enter Tryz.func171,Tryz.ntmps171
 go_wp2_with fail
 go_loopw [1,5] (fun t i wr => ∃ j:Nat,j <= n /\ i = .int .i64 (j:Int) /\ (∃ S,t = .string S /\ Hid (S = bs (bwdL ks n s.data.toList (n - j)))) /\ Hid (Since w wr)) (fun _ i _ => (intOf i).toNat)
 case atStart => exact ⟨n,by omega,by go_num,⟨s,rfl,by rw [Nat.sub_self]; exact HS0⟩,H0⟩
 case round =>
   obtain ⟨j,hj2,rfl,⟨S,rfl,HS⟩,HW⟩:=hrel
   by_cases hlt:0 < j
   · have hd:decide ((0:Int) < (j:Int)) = true:=decide_eq_true (by omega)
     have hcj:=(HW.out.below.cell (p:=⟨b,o + j,none⟩) hb).trans (HC.out j (by rw [HL.out]; omega))
     have hzj:=getD_size HZ.out j (by rw [HL.out]; omega)
     obtain ⟨K,hK⟩:∃ K,K = ks.getD j ⟨#[]⟩:=⟨_,rfl⟩
     rw [<- hK] at hcj hzj
     obtain ⟨q,hq⟩:∃ q,q = decide (j = n):=⟨_,rfl⟩
     have hqe:((j:Int) == (n:Int)) = q:=by
       rw [hq]
       by_cases h:j = n
       · rw [decide_eq_true h,beq_iff_eq,h]
       · rw [decide_eq_false h,beq_eq_false_iff_ne]; omega
     obtain ⟨X1,hX1⟩:∃ X,X = bs (bwdL ks n s.data.toList (n - (j - 1))):=⟨_,rfl⟩
     have c1:=RefRnd.undo_mak S K (by rw [HS.out,size_bs,bwdL_len _ _ _ HL0.out]) hzj q X1 (by
       rw [hX1,show n - (j - 1) = (n - j) + 1 from by omega,bwdL,show n - (n - j) = j from by omega,rk_at ks _ K hK,HS.out,list_bs,hq])
     have i1:(0:Int) <= (j:Int):=by omega
     have i2:(j:Int) < (n:Int) + 1:=by omega
     clear hK hq hzj
     have HX1:=lH hX1
     clear hX1
     go_wp2_with fail
     refine (c1).calls HW.out ?_
     intro w2 h2
     have H2:=lH h2
     clear h2
     go_wp2_with fail
     go_roundw
     case rel => exact ⟨j - 1,by omega,by rw [show ((j - 1:Nat):Int) = (j:Int) - 1 from by omega],⟨X1,rfl,HX1⟩,H2⟩
     case measure => simp [intOf]; omega
   · obtain rfl:j = 0:=by omega
     have hc0:=(HW.out.below.cell (p:=⟨b,o + 0,none⟩) hb).trans (HC.out 0 (by rw [HL.out]; omega))
     have hz0:=getD_size HZ.out 0 (by rw [HL.out]; omega)
     rw [Nat.add_zero] at hc0
     obtain ⟨K0,hK0⟩:∃ K,K = ks.getD 0 ⟨#[]⟩:=⟨_,rfl⟩
     rw [<- hK0] at hc0 hz0
     have c0:=RefRnd.key_mak S K0 (by rw [HS.out,size_bs,bwdL_len _ _ _ HL0.out]) hz0 X (by rw [HX.out,decL,rk_at ks 0 K0 hK0,HS.out,list_bs,Nat.sub_zero])
     have i0:(0:Int) < (n:Int) + 1:=by omega
     clear hK0 hz0
     go_wp2_with fail
     refine (c0).calls HW.out ?_
     intro w2 h2
     have H2:=lH h2
     clear h2
     go_wp2_with fail
     go_ret
     exact ⟨rfl,H2.out⟩
end RefAes
namespace RefAes
open Rnd Aes
theorem keysL_16 (key:ByteArray) (hk:keyOk key):∀ x ∈ Sched.keysL key.data.toList (key.size / 4),x.size = 16:=by
 unfold keyOk at hk
 have hl:key.data.toList.length = 4 * (key.size / 4):=by show key.size = _; omega
 have hcl:=Sched.catw_len key.data.toList (key.size / 4) (by omega) hl
 intro x hx
 unfold Sched.keysL Oct.pcs at hx
 obtain ⟨i,hi,rfl⟩:=List.mem_map.1 hx
 rw [List.mem_range] at hi
 unfold Oct.pc
 rw [size_bs,List.length_take,List.length_drop,hcl]
 omega
theorem keys_key (key:ByteArray) (hk:keyOk key):Sched.MakE 161 #[.string key] (Sched.keysL key.data.toList (key.size / 4)) 0:=by
 unfold keyOk at hk
 exact RefSched.keys_yes key _ (by omega) (by omega)
theorem fwd_key (key b:ByteArray) (hk:keyOk key) (hb:b.size = 16) (X:ByteArray) (hX:X = encK key b) (w:World) (v:Value) (hv:StrsR w v (Sched.keysL key.data.toList (key.size / 4))) :
   Calls Tryz.prog 162 #[v,.string b] w fun e w' => e = .returned (.string X) /\ Since w w' :=
 forward_calls _ (key.size / 4 + 6) (by rw [Sched.keysL_len]) (keysL_16 key hk) b hb (by unfold keyOk at hk; omega) X (by rw [hX]; rfl) w v hv
theorem bwd_key (key b:ByteArray) (hk:keyOk key) (hb:b.size = 16) (X:ByteArray) (hX:X = decK key b) (w:World) (v:Value) (hv:StrsR w v (Sched.keysL key.data.toList (key.size / 4))) :
   Calls Tryz.prog 171 #[v,.string b] w fun e w' => e = .returned (.string X) /\ Since w w' :=
 backward_calls _ (key.size / 4 + 6) (by rw [Sched.keysL_len]) (keysL_16 key hk) b hb (by unfold keyOk at hk; omega) X (by rw [hX]; rfl) w v hv
theorem enc_yes (key b:ByteArray) (hk:keyOk key) (hb:b.size = 16) (X:ByteArray) (hX:X = encK key b):Mak 113 #[.string key,.string b] (.tuple #[.string X,.int .i64 0]):=by
 intro w
 have c1:=keys_key key hk
 have c2:=fun w v => fwd_key key b hk hb X hX w v
 have H0:=lH (Since.refl w)
 have hn:(b.size:Int) = 16:=by omega
 have C2:=lH c2
 clear hk hX c2
 go_enter Tryz.func113,Tryz.ntmps113
 go_wp2_with fail
 refine c1.calls H0.out ?_
 intro v w1 ho hb h1
 have H1:=lH h1
 have HO:=lH ho
 clear ho hb h1
 go_wp2_with fail
 refine (C2.out _ _ HO.out).mono ?_
 rintro e w2 ⟨rfl,h2⟩
 have H2:=lH (Since.step H1.out h2)
 clear h2
 go_wp2_with fail
 go_ret2
 exact ⟨rfl,H2.out⟩
def manyL (f:ByteArray -> ByteArray) (l:List UInt8) (k:Nat):List UInt8:=Oct.cat ((Oct.pcs l 16 k).map f)
theorem manyL_succ (f:ByteArray -> ByteArray) (l:List UInt8) (k:Nat):manyL f l (k + 1) = manyL f l k ++ (f (Oct.pc l 16 k)).data.toList:=by
 unfold manyL
 rw [Oct.pcs_succ,List.map_append,List.map_singleton,Oct.cat_snoc]
theorem manyL_len (f:ByteArray -> ByteArray) (hf:∀ b,(f b).size = 16) (l:List UInt8) (k:Nat):(manyL f l k).length = 16 * k:=by
 induction k with
 | zero => rfl
 | succ k ih =>
   rw [manyL_succ,List.length_append,ih]
   have:(f (Oct.pc l 16 k)).data.toList.length = 16:=hf _
   omega
def manyK (back:Bool) (key s:ByteArray):ByteArray:=bs (manyL (if back then decK key else encK key) s.data.toList (s.size / 16))
theorem both_16 (back:Bool) (key b:ByteArray):((if back then decK key else encK key) b).size = 16:=by
 cases back
 · exact encK_size key b
 · exact decK_size key b
theorem pc_ext (s:ByteArray) (a k:Nat) (ha:a = 16 * k):s.extract a (a + 16) = Oct.pc s.data.toList 16 k:=by
 apply ba_ext
 rw [ext_list,Oct.pc,list_bs,ha,show 16 * k + 16 - 16 * k = 16 from by omega]
theorem pc_16 (s:ByteArray) (k:Nat) (h:16 * k + 16 <= s.size):(Oct.pc s.data.toList 16 k).size = 16:=by
 unfold Oct.pc
 rw [size_bs,List.length_take,List.length_drop]
 have:s.data.toList.length = s.size:=rfl
 omega
set_option maxHeartbeats 2000000 in
theorem many_yes (key s:ByteArray) (back:Bool) (hk:keyOk key) (hs:s.size % 16 = 0) (hm:s.size <= 1000000) (X:ByteArray) (hX:X = manyK back key s):Mak 128 #[.string key,.string s,.bool back] (.tuple #[.string X,.int .i64 0]):=by
 intro w
 have c1:=keys_key key hk
 have H0:=lH (Since.refl w)
 have hn:((s.size:Int) % 16 == 0) = true:=by rw [beq_iff_eq]; omega
 have hn2:((s.size:Int) % 16 != 0) = false:=by rw [bne_eq_false_iff_eq]; omega
 have CF:=lH (fun b hb X hX w v hv => fwd_key key b hk hb X hX w v hv)
 have CB:=lH (fun b hb X hX w v hv => bwd_key key b hk hb X hX w v hv)
 have HX:=lH hX
 have HK:=lH hk
 have HM:=lH hs
 clear hk hX hs
 go_enter Tryz.func128,Tryz.ntmps128
 go_wp2_with fail
 refine c1.calls H0.out ?_
 intro v w1 ho hb h1
 have H1:=lH h1
 have HO:=lH ho
 clear ho hb h1
 rcases back with _ | _
 · have C2:=CF
   clear CF CB
   go_wp2_with fail
   go_loopw [10,11] (fun o i wr => ∃ (a k:Nat) (O:ByteArray),i = .int .i64 (a:Int) /\ o = .string O /\ Hid (a = 16 * k) /\ a <= s.size /\ Hid (O = bs (manyL (encK key) s.data.toList k)) /\ Hid (Since w1 wr)) (fun _ i _ => s.size - (intOf i).toNat)
   case atStart => exact ⟨0,0,⟨#[]⟩,rfl,rfl,lH rfl,Nat.zero_le _,lH rfl,lH (Since.refl _)⟩
   case round =>
     obtain ⟨a,k,O,rfl,rfl,HA,ha,HO2,HS⟩:=hrel
     have hOs:O.size = a:=by rw [HO2.out,size_bs,manyL_len _ (encK_size key),HA.out]
     by_cases hlt:a < s.size
     · have hd:decide ((a:Int) < (s.size:Int)) = true:=decide_eq_true (by omega)
       have hak:a + 16 <= s.size:=by have:=HA.out; have:=HM.out; omega
       have he:=pc_ext s a k HA.out
       have hp:=pc_16 s k (by have:=HA.out; omega)
       obtain ⟨P,hP⟩:∃ P,P = s.extract a (a + 16):=⟨_,rfl⟩
       rw [he] at hP
       obtain ⟨Y,hY⟩:∃ Y,Y = encK key P:=⟨_,rfl⟩
       have hYs:Y.size = 16:=by rw [hY]; exact encK_size key P
       have c2:=C2.out P (by rw [hP]; exact hp) Y hY wr v (HO.out.below HS.out)
       have hsz:¬ 9223372036854775807 < O.size + Y.size:=by omega
       have hO2:O ++ Y = bs (manyL (encK key) s.data.toList (k + 1)):=by
         apply ba_ext
         rw [app_list,HO2.out,list_bs,list_bs,manyL_succ,hY,hP]
       rw [<- hP] at he
       have i1:(0:Int) <= (a:Int):=by omega
       have i2:(a:Int) + 16 <= (s.size:Int):=by omega
       clear hOs hp hP hY hYs
       have HO2_1:=lH hO2
       clear hO2
       have H_c2:=lH c2
       clear c2
       go_wp2_with fail
       rw [he]
       refine H_c2.out.mono ?_
       rintro e w2 ⟨rfl,h2⟩
       have HS2:=lH (Since.step HS.out h2)
       clear h2
       go_wp2_with fail
       go_roundw
       case rel => exact ⟨a + 16,k + 1,_,by go_num,rfl,lH (by have:=HA.out; omega),hak,HO2_1,HS2⟩
       case measure => simp [intOf]; omega
     · have hd:decide ((a:Int) < (s.size:Int)) = false:=decide_eq_false (by omega)
       have e:O = X:=by
         rw [HO2.out,HX.out,manyK,show s.size / 16 = k from by have:=HA.out; omega]; rfl
       subst e
       clear hOs
       go_wp2_with fail
       go_ret2
       exact ⟨rfl,Since.step H1.out HS.out⟩
 · have C2:=CB
   clear CF CB
   go_wp2_with fail
   go_loopw [10,11] (fun o i wr => ∃ (a k:Nat) (O:ByteArray),i = .int .i64 (a:Int) /\ o = .string O /\ Hid (a = 16 * k) /\ a <= s.size /\ Hid (O = bs (manyL (decK key) s.data.toList k)) /\ Hid (Since w1 wr)) (fun _ i _ => s.size - (intOf i).toNat)
   case atStart => exact ⟨0,0,⟨#[]⟩,rfl,rfl,lH rfl,Nat.zero_le _,lH rfl,lH (Since.refl _)⟩
   case round =>
     obtain ⟨a,k,O,rfl,rfl,HA,ha,HO2,HS⟩:=hrel
     have hOs:O.size = a:=by rw [HO2.out,size_bs,manyL_len _ (decK_size key),HA.out]
     by_cases hlt:a < s.size
     · have hd:decide ((a:Int) < (s.size:Int)) = true:=decide_eq_true (by omega)
       have hak:a + 16 <= s.size:=by have:=HA.out; have:=HM.out; omega
       have he:=pc_ext s a k HA.out
       have hp:=pc_16 s k (by have:=HA.out; omega)
       obtain ⟨P,hP⟩:∃ P,P = s.extract a (a + 16):=⟨_,rfl⟩
       rw [he] at hP
       obtain ⟨Y,hY⟩:∃ Y,Y = decK key P:=⟨_,rfl⟩
       have hYs:Y.size = 16:=by rw [hY]; exact decK_size key P
       have c2:=C2.out P (by rw [hP]; exact hp) Y hY wr v (HO.out.below HS.out)
       have hsz:¬ 9223372036854775807 < O.size + Y.size:=by omega
       have hO2:O ++ Y = bs (manyL (decK key) s.data.toList (k + 1)):=by
         apply ba_ext
         rw [app_list,HO2.out,list_bs,list_bs,manyL_succ,hY,hP]
       rw [<- hP] at he
       have i1:(0:Int) <= (a:Int):=by omega
       have i2:(a:Int) + 16 <= (s.size:Int):=by omega
       clear hOs hp hP hY hYs
       have HO2_1:=lH hO2
       clear hO2
       have H_c2:=lH c2
       clear c2
       go_wp2_with fail
       rw [he]
       refine H_c2.out.mono ?_
       rintro e w2 ⟨rfl,h2⟩
       have HS2:=lH (Since.step HS.out h2)
       clear h2
       go_wp2_with fail
       go_roundw
       case rel => exact ⟨a + 16,k + 1,_,by go_num,rfl,lH (by have:=HA.out; omega),hak,HO2_1,HS2⟩
       case measure => simp [intOf]; omega
     · have hd:decide ((a:Int) < (s.size:Int)) = false:=decide_eq_false (by omega)
       have e:O = X:=by
         rw [HO2.out,HX.out,manyK,show s.size / 16 = k from by have:=HA.out; omega]; rfl
       subst e
       clear hOs
       go_wp2_with fail
       go_ret2
       exact ⟨rfl,Since.step H1.out HS.out⟩
end RefAes
namespace Aes
open Rnd RefAes
end Aes
end Go.Proofs.YtddlaafpianjbaaGreatDoor
