import Derived.StillTailTactics
import Derived.Test.YtddlaafpianjbaaGreatDoorBo38
set_option maxRecDepth 100000
namespace Go.Proofs.YtddlaafpianjbaaGreatDoor
open Go.RowKit
namespace Opt
def unO (l:List UInt8):Bool:=decide (1 <= (Dig.unS l).size)
def unN (l:List UInt8):Int:=if unO l then ((Oct.numN (Dig.unS l).data.toList:Nat):Int) else 0
theorem unhex_core (t X:ByteArray) (B O:Bool) (n:Int) (hn:0 <= n /\ n <= 4294967295) (c1:Mak 166 #[.string t] (.tuple #[.string X,.bool B])) (c2:Ret 75 #[.string X] (.tuple #[.int .u64 n,.bool O])):Mak 199 #[.string t] (.tuple #[.int .i64 n,.bool O]):=by
 intro w
 have HS:=lH (Since.refl w)
 have e2:IntKind.i64.wrap n = n:=IntWalk.i64_in _ (by omega)
 go_enter Tryz.func199,Tryz.ntmps199
 go_wp2_with fail
 repeat (first | (with_reducible refine c1.calls HS.out ?_; intro wz hz; replace HS:=lH hz; clear hz; try go_wp2_with fail) | (with_reducible refine c2.calls ?_; try go_wp2_with fail))
 go_ret2
 exact ⟨rfl,HS.out⟩
theorem unhex_any (s:ByteArray) (hm:s.size <= 200):Mak 166 #[.string s] (.tuple #[.string (Dig.unS s.data.toList),.bool (Dig.unB s.data.toList)]):=by
 have hl:s.data.toList.length = s.size:=rfl
 by_cases h:s.size % 2 = 0
 · have e:Dig.unB s.data.toList = Dig.okN s.data.toList (s.size / 2):=by
     unfold Dig.unB
     rw [hl,decide_eq_true h,Bool.true_and]
   exact fun w => Dig.unhex_even s (s.size / 2) w (by omega) (by omega) _ _ e (by unfold Dig.unS; rw [e,hl])
 · have e:Dig.unB s.data.toList = false:=by
     unfold Dig.unB
     rw [hl,decide_eq_false h,Bool.false_and]
   unfold Dig.unS
   rw [e]
   exact fun w => Dig.unhex_odd s w (by omega) (by omega)
theorem unS_size (l:List UInt8):(Dig.unS l).size <= l.length / 2:=by
 unfold Dig.unS
 split
 · rw [strOfNums_size]; simp
 · exact Nat.zero_le _
theorem unhex_mak (t:ByteArray) (hm:t.size <= 8):Mak 199 #[.string t] (.tuple #[.int .i64 (unN t.data.toList),.bool (unO t.data.toList)]):=by
 have h1:=unS_size t.data.toList
 have hl:t.data.toList.length = t.size:=rfl
 by_cases h:1 <= (Dig.unS t.data.toList).size
 · have ho:unO t.data.toList = true:=decide_eq_true h
   have hn:unN t.data.toList = ((Oct.numN (Dig.unS t.data.toList).data.toList:Nat):Int):=by unfold unN; rw [ho,if_pos rfl]
   rw [ho,hn]
   have hb:=Oct.numN_aux (Dig.unS t.data.toList).data.toList 0
   have hb2:Oct.numN (Dig.unS t.data.toList).data.toList < 256 ^ 4:=by
     refine Nat.lt_of_lt_of_le hb ?_
     rw [Nat.zero_add,Nat.one_mul]
     exact Nat.pow_le_pow_right (by decide) (by show (Dig.unS t.data.toList).size <= 4; omega)
   exact unhex_core t _ _ _ _ ⟨by omega,by have:(256:Nat) ^ 4 = 4294967296:=rfl; omega⟩ (unhex_any t (by omega)) (fun w => Oct.get_in _ w h (by omega))
 · have ho:unO t.data.toList = false:=decide_eq_false h
   have hn:unN t.data.toList = 0:=by unfold unN; rw [ho]; rfl
   rw [ho,hn]
   exact unhex_core t _ _ _ _ ⟨by decide,by decide⟩ (unhex_any t (by omega)) (fun w => Oct.get_out _ w (by omega) (by omega))
def Z2:Array Value:=#[.string ⟨#[]⟩,.string ⟨#[]⟩]
def C2 (i d:ByteArray):Array Value:=#[.string i,.string d]
theorem c2_one (i d:ByteArray):(C2 i d).all (·.oneCell') = true:=by
 rw [Array.all_eq_true]
 intro k hk
 match k,hk with
 | 0,_ | 1,_ => rfl
theorem c2_info (i d:ByteArray):(Tryz.prog.info? 152).map (·.size) = some (C2 i d).size:=by kernel_rfl
theorem rc2_info (i d:ByteArray):(Tryz.prog.info? 126).map (·.size) = some (C2 i d).size:=by kernel_rfl
theorem results_cell_tmp3 {P:Program} {fn:Func} {p u x:Tmp} {ty:TypeId} (h:fn.results = #[.cell p ty,.tmp u,.tmp x]) (tmps:Array Value) (w:World) (g:Nat) (t:TypeId) (cs:Array Value) (fr:Nat × Nat) (d:TypeDesc) (v z:Value)
   (hp:tmps.getD p undef = .pointer (some ⟨g,0,none⟩)) (hv:tmps.getD u undef = v) (hz:tmps.getD x undef = z) (hg:w.heap[g]? = some (.cells cs t fr))
   (hu:P.underlying ty = some d) (hd:(match d with | .struct _ | .array _ _ => true | _ => false) = true) (hi:(P.info? ty).map (·.size) = some cs.size) :
   (results fn tmps).run P w = .ok (.tuple #[.agg cs,v,z]) w:=by
 subst hv hz
 have hp':tmps[p]?.getD undef = .pointer (some ⟨g,0,none⟩):=by simpa using hp
 simp [results,h,hp',asAddr,run_loadVar_row w g t ty cs fr d hg hu hd hi]
def noO:Value:=.tuple #[.agg Z2,.int .i64 0,.int .i64 5]
set_option maxHeartbeats 4000000 in
theorem dec_bad1 (s C:ByteArray) (n:Int) (c1:Ret 106 #[.string s,.int .i64 2,.int .i64 2] (.string C)) (c2:Mak 199 #[.string C] (.tuple #[.int .i64 n,.bool false])):Mak 164 #[.string s] noO:=by
 intro w
 have hr0:Hid (HR w w.heap.size Z2 152 ((w.alloc (.cells Z2 152)).alloc (.cells Z2 152))):=lH (hr_old ⟨heap_alloc_new w _⟩ _)
 have hr1:Hid (HR w (w.heap.size + 1) Z2 152 ((w.alloc (.cells Z2 152)).alloc (.cells Z2 152))):=lH (by
   have h:=heap_alloc_new (w.alloc (.cells Z2 152)) (.cells Z2 152)
   exact ⟨by simpa using h⟩)
 have HS:Hid (Since w ((w.alloc (.cells Z2 152)).alloc (.cells Z2 152))):=lH (((Since.refl w).alloc _).alloc _)
 unfold Z2 at hr0 hr1 HS
 go_enter Tryz.func164,Tryz.ntmps164
 go_wp2_with fail
 refine wp_scope_some 1 ?_
 go_wp2_with fail
 repeat (first | (with_reducible refine c1.calls ?_; try go_wp2_with fail) | (with_reducible refine c2.calls0 ?_; intro wz hz; replace hr0:=lH (hr0.out.step hz); replace hr1:=lH (hr1.out.step hz); replace HS:=lH (HS.out.step hz); clear hz; try go_wp2_with fail))
 go_step3
 refine ⟨_,rfl, ?_⟩
 go_wp2_with (refine wpList_store_row rfl 152 _ _ rfl w.heap.size Z2 (by rfl) (by rfl) _ _ hr0.out.row (c2_info ⟨#[]⟩ ⟨#[]⟩) rfl (c2_one ⟨#[]⟩ ⟨#[]⟩) ?_)
 exact bodyPost_ret (v:=noO) (results_cell_tmp3 Tryz.results164 _ _ _ _ _ _ _ _ _ rfl rfl rfl (setRow_heap _ _ _ _ _ _ hr0.out.row) Tryz.underlying152 rfl (c2_info ⟨#[]⟩ ⟨#[]⟩)) rfl ⟨rfl,below_setRow HS.out (Nat.le_refl _) _⟩
set_option maxHeartbeats 4000000 in
theorem dec_bad2 (s C:ByteArray) (n:Int) (hn:(n == 0) = false) (h1:decide (n < 4) = true) (c1:Ret 106 #[.string s,.int .i64 2,.int .i64 2] (.string C)) (c2:Mak 199 #[.string C] (.tuple #[.int .i64 n,.bool true])):Mak 164 #[.string s] noO:=by
 intro w
 have hr0:Hid (HR w w.heap.size Z2 152 ((w.alloc (.cells Z2 152)).alloc (.cells Z2 152))):=lH (hr_old ⟨heap_alloc_new w _⟩ _)
 have hr1:Hid (HR w (w.heap.size + 1) Z2 152 ((w.alloc (.cells Z2 152)).alloc (.cells Z2 152))):=lH (by
   have h:=heap_alloc_new (w.alloc (.cells Z2 152)) (.cells Z2 152)
   exact ⟨by simpa using h⟩)
 have HS:Hid (Since w ((w.alloc (.cells Z2 152)).alloc (.cells Z2 152))):=lH (((Since.refl w).alloc _).alloc _)
 unfold Z2 at hr0 hr1 HS
 go_enter Tryz.func164,Tryz.ntmps164
 go_wp2_with fail
 refine wp_scope_some 1 ?_
 go_wp2_with fail
 repeat (first | (with_reducible refine c1.calls ?_; try go_wp2_with fail) | (with_reducible refine c2.calls0 ?_; intro wz hz; replace hr0:=lH (hr0.out.step hz); replace hr1:=lH (hr1.out.step hz); replace HS:=lH (HS.out.step hz); clear hz; try go_wp2_with fail))
 go_step3
 refine ⟨_,rfl, ?_⟩
 go_wp2_with (refine wpList_store_row rfl 152 _ _ rfl w.heap.size Z2 (by rfl) (by rfl) _ _ hr0.out.row (c2_info ⟨#[]⟩ ⟨#[]⟩) rfl (c2_one ⟨#[]⟩ ⟨#[]⟩) ?_)
 exact bodyPost_ret (v:=noO) (results_cell_tmp3 Tryz.results164 _ _ _ _ _ _ _ _ _ rfl rfl rfl (setRow_heap _ _ _ _ _ _ hr0.out.row) Tryz.underlying152 rfl (c2_info ⟨#[]⟩ ⟨#[]⟩)) rfl ⟨rfl,below_setRow HS.out (Nat.le_refl _) _⟩
set_option maxHeartbeats 4000000 in
theorem dec_bad3 (s C:ByteArray) (n:Int) (hn:(n == 0) = false) (h1:decide (n < 4) = false) (h2:decide ((s.size:Int) < n) = true) (c1:Ret 106 #[.string s,.int .i64 2,.int .i64 2] (.string C)) (c2:Mak 199 #[.string C] (.tuple #[.int .i64 n,.bool true])):Mak 164 #[.string s] noO:=by
 intro w
 have hr0:Hid (HR w w.heap.size Z2 152 ((w.alloc (.cells Z2 152)).alloc (.cells Z2 152))):=lH (hr_old ⟨heap_alloc_new w _⟩ _)
 have hr1:Hid (HR w (w.heap.size + 1) Z2 152 ((w.alloc (.cells Z2 152)).alloc (.cells Z2 152))):=lH (by
   have h:=heap_alloc_new (w.alloc (.cells Z2 152)) (.cells Z2 152)
   exact ⟨by simpa using h⟩)
 have HS:Hid (Since w ((w.alloc (.cells Z2 152)).alloc (.cells Z2 152))):=lH (((Since.refl w).alloc _).alloc _)
 unfold Z2 at hr0 hr1 HS
 go_enter Tryz.func164,Tryz.ntmps164
 go_wp2_with fail
 refine wp_scope_some 1 ?_
 go_wp2_with fail
 repeat (first | (with_reducible refine c1.calls ?_; try go_wp2_with fail) | (with_reducible refine c2.calls0 ?_; intro wz hz; replace hr0:=lH (hr0.out.step hz); replace hr1:=lH (hr1.out.step hz); replace HS:=lH (HS.out.step hz); clear hz; try go_wp2_with fail))
 go_step3
 refine ⟨_,rfl, ?_⟩
 go_wp2_with (refine wpList_store_row rfl 152 _ _ rfl w.heap.size Z2 (by rfl) (by rfl) _ _ hr0.out.row (c2_info ⟨#[]⟩ ⟨#[]⟩) rfl (c2_one ⟨#[]⟩ ⟨#[]⟩) ?_)
 exact bodyPost_ret (v:=noO) (results_cell_tmp3 Tryz.results164 _ _ _ _ _ _ _ _ _ rfl rfl rfl (setRow_heap _ _ _ _ _ _ hr0.out.row) Tryz.underlying152 rfl (c2_info ⟨#[]⟩ ⟨#[]⟩)) rfl ⟨rfl,below_setRow HS.out (Nat.le_refl _) _⟩
set_option maxHeartbeats 4000000 in
theorem dec_bad4 (s C C2:ByteArray) (n:Int)  (c1:Ret 106 #[.string s,.int .i64 2,.int .i64 2] (.string C)) (c2:Mak 199 #[.string C] (.tuple #[.int .i64 0,.bool true])) (c3:Ret 106 #[.string s,.int .i64 6,.int .i64 4] (.string C2)) (c4:Mak 199 #[.string C2] (.tuple #[.int .i64 n,.bool false])):Mak 164 #[.string s] noO:=by
 intro w
 have hr0:Hid (HR w w.heap.size Z2 152 ((w.alloc (.cells Z2 152)).alloc (.cells Z2 152))):=lH (hr_old ⟨heap_alloc_new w _⟩ _)
 have hr1:Hid (HR w (w.heap.size + 1) Z2 152 ((w.alloc (.cells Z2 152)).alloc (.cells Z2 152))):=lH (by
   have h:=heap_alloc_new (w.alloc (.cells Z2 152)) (.cells Z2 152)
   exact ⟨by simpa using h⟩)
 have HS:Hid (Since w ((w.alloc (.cells Z2 152)).alloc (.cells Z2 152))):=lH (((Since.refl w).alloc _).alloc _)
 unfold Z2 at hr0 hr1 HS
 go_enter Tryz.func164,Tryz.ntmps164
 go_wp2_with fail
 refine wp_scope_some 1 ?_
 go_wp2_with fail
 repeat (first | (with_reducible refine c1.calls ?_; try go_wp2_with fail) | (with_reducible refine c2.calls0 ?_; intro wz hz; replace hr0:=lH (hr0.out.step hz); replace hr1:=lH (hr1.out.step hz); replace HS:=lH (HS.out.step hz); clear hz; try go_wp2_with fail) | (with_reducible refine c3.calls ?_; try go_wp2_with fail) | (with_reducible refine c4.calls0 ?_; intro wz hz; replace hr0:=lH (hr0.out.step hz); replace hr1:=lH (hr1.out.step hz); replace HS:=lH (HS.out.step hz); clear hz; try go_wp2_with fail))
 go_step3
 refine ⟨_,rfl, ?_⟩
 go_wp2_with (refine wpList_store_row rfl 152 _ _ rfl w.heap.size Z2 (by rfl) (by rfl) _ _ hr0.out.row (c2_info ⟨#[]⟩ ⟨#[]⟩) rfl (c2_one ⟨#[]⟩ ⟨#[]⟩) ?_)
 exact bodyPost_ret (v:=noO) (results_cell_tmp3 Tryz.results164 _ _ _ _ _ _ _ _ _ rfl rfl rfl (setRow_heap _ _ _ _ _ _ hr0.out.row) Tryz.underlying152 rfl (c2_info ⟨#[]⟩ ⟨#[]⟩)) rfl ⟨rfl,below_setRow HS.out (Nat.le_refl _) _⟩
set_option maxHeartbeats 4000000 in
theorem dec_bad5 (s C C2:ByteArray) (n:Int) (h1:decide (n < 10) = true) (c1:Ret 106 #[.string s,.int .i64 2,.int .i64 2] (.string C)) (c2:Mak 199 #[.string C] (.tuple #[.int .i64 0,.bool true])) (c3:Ret 106 #[.string s,.int .i64 6,.int .i64 4] (.string C2)) (c4:Mak 199 #[.string C2] (.tuple #[.int .i64 n,.bool true])):Mak 164 #[.string s] noO:=by
 intro w
 have hr0:Hid (HR w w.heap.size Z2 152 ((w.alloc (.cells Z2 152)).alloc (.cells Z2 152))):=lH (hr_old ⟨heap_alloc_new w _⟩ _)
 have hr1:Hid (HR w (w.heap.size + 1) Z2 152 ((w.alloc (.cells Z2 152)).alloc (.cells Z2 152))):=lH (by
   have h:=heap_alloc_new (w.alloc (.cells Z2 152)) (.cells Z2 152)
   exact ⟨by simpa using h⟩)
 have HS:Hid (Since w ((w.alloc (.cells Z2 152)).alloc (.cells Z2 152))):=lH (((Since.refl w).alloc _).alloc _)
 unfold Z2 at hr0 hr1 HS
 go_enter Tryz.func164,Tryz.ntmps164
 go_wp2_with fail
 refine wp_scope_some 1 ?_
 go_wp2_with fail
 repeat (first | (with_reducible refine c1.calls ?_; try go_wp2_with fail) | (with_reducible refine c2.calls0 ?_; intro wz hz; replace hr0:=lH (hr0.out.step hz); replace hr1:=lH (hr1.out.step hz); replace HS:=lH (HS.out.step hz); clear hz; try go_wp2_with fail) | (with_reducible refine c3.calls ?_; try go_wp2_with fail) | (with_reducible refine c4.calls0 ?_; intro wz hz; replace hr0:=lH (hr0.out.step hz); replace hr1:=lH (hr1.out.step hz); replace HS:=lH (HS.out.step hz); clear hz; try go_wp2_with fail))
 go_step3
 refine ⟨_,rfl, ?_⟩
 go_wp2_with (refine wpList_store_row rfl 152 _ _ rfl w.heap.size Z2 (by rfl) (by rfl) _ _ hr0.out.row (c2_info ⟨#[]⟩ ⟨#[]⟩) rfl (c2_one ⟨#[]⟩ ⟨#[]⟩) ?_)
 exact bodyPost_ret (v:=noO) (results_cell_tmp3 Tryz.results164 _ _ _ _ _ _ _ _ _ rfl rfl rfl (setRow_heap _ _ _ _ _ _ hr0.out.row) Tryz.underlying152 rfl (c2_info ⟨#[]⟩ ⟨#[]⟩)) rfl ⟨rfl,below_setRow HS.out (Nat.le_refl _) _⟩
set_option maxHeartbeats 4000000 in
theorem dec_bad6 (s C C2:ByteArray) (n:Int) (h1:decide (n < 10) = false) (h2:decide ((s.size:Int) < n) = true) (c1:Ret 106 #[.string s,.int .i64 2,.int .i64 2] (.string C)) (c2:Mak 199 #[.string C] (.tuple #[.int .i64 0,.bool true])) (c3:Ret 106 #[.string s,.int .i64 6,.int .i64 4] (.string C2)) (c4:Mak 199 #[.string C2] (.tuple #[.int .i64 n,.bool true])):Mak 164 #[.string s] noO:=by
 intro w
 have hr0:Hid (HR w w.heap.size Z2 152 ((w.alloc (.cells Z2 152)).alloc (.cells Z2 152))):=lH (hr_old ⟨heap_alloc_new w _⟩ _)
 have hr1:Hid (HR w (w.heap.size + 1) Z2 152 ((w.alloc (.cells Z2 152)).alloc (.cells Z2 152))):=lH (by
   have h:=heap_alloc_new (w.alloc (.cells Z2 152)) (.cells Z2 152)
   exact ⟨by simpa using h⟩)
 have HS:Hid (Since w ((w.alloc (.cells Z2 152)).alloc (.cells Z2 152))):=lH (((Since.refl w).alloc _).alloc _)
 unfold Z2 at hr0 hr1 HS
 go_enter Tryz.func164,Tryz.ntmps164
 go_wp2_with fail
 refine wp_scope_some 1 ?_
 go_wp2_with fail
 repeat (first | (with_reducible refine c1.calls ?_; try go_wp2_with fail) | (with_reducible refine c2.calls0 ?_; intro wz hz; replace hr0:=lH (hr0.out.step hz); replace hr1:=lH (hr1.out.step hz); replace HS:=lH (HS.out.step hz); clear hz; try go_wp2_with fail) | (with_reducible refine c3.calls ?_; try go_wp2_with fail) | (with_reducible refine c4.calls0 ?_; intro wz hz; replace hr0:=lH (hr0.out.step hz); replace hr1:=lH (hr1.out.step hz); replace HS:=lH (HS.out.step hz); clear hz; try go_wp2_with fail))
 go_step3
 refine ⟨_,rfl, ?_⟩
 go_wp2_with (refine wpList_store_row rfl 152 _ _ rfl w.heap.size Z2 (by rfl) (by rfl) _ _ hr0.out.row (c2_info ⟨#[]⟩ ⟨#[]⟩) rfl (c2_one ⟨#[]⟩ ⟨#[]⟩) ?_)
 exact bodyPost_ret (v:=noO) (results_cell_tmp3 Tryz.results164 _ _ _ _ _ _ _ _ _ rfl rfl rfl (setRow_heap _ _ _ _ _ _ hr0.out.row) Tryz.underlying152 rfl (c2_info ⟨#[]⟩ ⟨#[]⟩)) rfl ⟨rfl,below_setRow HS.out (Nat.le_refl _) _⟩
set_option maxHeartbeats 8000000 in
theorem dec_s1 (s C I D A X:ByteArray) (E:Int) (n:Nat) (hn:4 <= n) (hns:n <= s.size) (hm:s.size <= 100000) (hI:s.extract 0 2 = I) (hD:s.extract 4 n = D) (_hA:s.extract 0 n = A) (c1:Ret 106 #[.string s,.int .i64 2,.int .i64 2] (.string C)) (c2:Mak 199 #[.string C] (.tuple #[.int .i64 (n:Int),.bool true])) (c5:Mak 139 #[.agg #[.string I,.string D]] (.tuple #[.string X,.int .i64 E])) (hE:(E == 0) = false):Mak 164 #[.string s] noO:=by
 intro w
 have t0:((n:Int) == 0) = false:=by rw [beq_eq_false_iff_ne]; omega
 have t1:decide ((n:Int) < 4) = false:=decide_eq_false (by omega)
 have t2:decide ((s.size:Int) < (n:Int)) = false:=decide_eq_false (by omega)
 have i1:(2:Int) <= (s.size:Int):=by omega
 have i2:(4:Int) <= (n:Int):=by omega
 have i3:(n:Int) <= (s.size:Int):=by omega
 have i4:(0:Int) <= (n:Int):=by omega
 have hr0:Hid (HR w w.heap.size Z2 152 ((w.alloc (.cells Z2 152)).alloc (.cells Z2 152))):=lH (hr_old ⟨heap_alloc_new w _⟩ _)
 have hr1:Hid (HR w (w.heap.size + 1) Z2 152 ((w.alloc (.cells Z2 152)).alloc (.cells Z2 152))):=lH (by
   have h:=heap_alloc_new (w.alloc (.cells Z2 152)) (.cells Z2 152)
   exact ⟨by simpa using h⟩)
 have HS:Hid (Since w ((w.alloc (.cells Z2 152)).alloc (.cells Z2 152))):=lH (((Since.refl w).alloc _).alloc _)
 unfold Z2 at hr0 hr1 HS
 go_enter Tryz.func164,Tryz.ntmps164
 go_wp2_with fail
 refine wp_scope_some 1 ?_
 go_wp2_with fail
 repeat (first | (with_reducible refine c1.calls ?_; try go_wp2_with fail) | (with_reducible refine c2.calls0 ?_; intro wz hz; replace hr0:=lH (hr0.out.step hz); replace hr1:=lH (hr1.out.step hz); replace HS:=lH (HS.out.step hz); clear hz; try go_wp2_with fail))
 go_still_tail 7,(by kernel_rfl)
 refine wpList_store_row (w:=wz.drew) rfl 152 _ _ rfl (w.heap.size + 1) (C2 I D) (by rfl) (by rfl) _ _ hr1.out.row (c2_info I D) rfl (c2_one I D) ?_
 obtain ⟨W3,hW3⟩:∃ W3,W3 = wz.drew.setRow (w.heap.size + 1) (C2 I D):=⟨_,rfl⟩
 rw [<- hW3]
 have hx1:HR w (w.heap.size + 1) (C2 I D) 152 W3:=⟨by rw [hW3]; exact setRow_heap wz.drew _ _ _ _ _ hr1.out.row⟩
 have hx0:HR w w.heap.size Z2 152 W3:=⟨by rw [hW3]; exact (setRow_other _ _ _ _ (by omega)).trans hr0.out.row⟩
 have hx2:Since w W3:=by rw [hW3]; exact below_setRow (Since.drew HS.out) (by omega) _
 have hg:w.heap.size + 1 < W3.heap.size:=(Array.getElem?_eq_some_iff.1 hx1.row).1
 have m0:W3.cell? ⟨w.heap.size + 1,0,none⟩ = some (.string I):=by rw [hW3]; exact cell_setRow_same _ _ 0 _ _ _ _ hr1.out.row
 have m1:W3.cell? ⟨w.heap.size + 1,1,none⟩ = some (.string D):=by rw [hW3]; exact cell_setRow_same _ _ 1 _ _ _ _ hr1.out.row
 clear hW3
 replace hr0:=lH hx0
 replace HS:=lH hx2
 clear hx0 hx1 hx2 hr1
 go_wp2_with fail
 refine c5.calls0 ?_
 intro wz hz
 replace hr0:=lH (hr0.out.step hz)
 replace m0:=(Below.cell hz (by exact hg)).trans m0
 replace m1:=(Below.cell hz (by exact hg)).trans m1
 replace hg:=Nat.lt_of_lt_of_le hg (Below.size hz)
 replace HS:=lH (HS.out.step hz)
 clear hz
 go_wp2_with fail
 go_step3
 go_wp2_with (refine wpList_store_row rfl 152 _ _ rfl w.heap.size Z2 (by rfl) (by rfl) _ _ hr0.out.row (c2_info ⟨#[]⟩ ⟨#[]⟩) rfl (c2_one ⟨#[]⟩ ⟨#[]⟩) ?_)
 simp only [Exit.jumps]
 exact bodyPost_ret (v:=noO) (results_cell_tmp3 Tryz.results164 _ _ _ _ _ _ _ _ _ rfl rfl rfl (setRow_heap _ _ _ _ _ _ hr0.out.row) Tryz.underlying152 rfl (c2_info ⟨#[]⟩ ⟨#[]⟩)) rfl ⟨rfl,below_setRow HS.out (Nat.le_refl _) _⟩
set_option maxHeartbeats 8000000 in
theorem dec_s2 (s C I D A X:ByteArray) (E:Int) (n:Nat) (hn:4 <= n) (hns:n <= s.size) (hm:s.size <= 100000) (hI:s.extract 0 2 = I) (hD:s.extract 4 n = D) (hA:s.extract 0 n = A) (c1:Ret 106 #[.string s,.int .i64 2,.int .i64 2] (.string C)) (c2:Mak 199 #[.string C] (.tuple #[.int .i64 (n:Int),.bool true])) (c5:Mak 139 #[.agg #[.string I,.string D]] (.tuple #[.string X,.int .i64 E])) (hE:(E == 0) = true) (hA2:(X.toList == A.toList) = false):Mak 164 #[.string s] noO:=by
 intro w
 have t0:((n:Int) == 0) = false:=by rw [beq_eq_false_iff_ne]; omega
 have t1:decide ((n:Int) < 4) = false:=decide_eq_false (by omega)
 have t2:decide ((s.size:Int) < (n:Int)) = false:=decide_eq_false (by omega)
 have i1:(2:Int) <= (s.size:Int):=by omega
 have i2:(4:Int) <= (n:Int):=by omega
 have i3:(n:Int) <= (s.size:Int):=by omega
 have i4:(0:Int) <= (n:Int):=by omega
 have hr0:Hid (HR w w.heap.size Z2 152 ((w.alloc (.cells Z2 152)).alloc (.cells Z2 152))):=lH (hr_old ⟨heap_alloc_new w _⟩ _)
 have hr1:Hid (HR w (w.heap.size + 1) Z2 152 ((w.alloc (.cells Z2 152)).alloc (.cells Z2 152))):=lH (by
   have h:=heap_alloc_new (w.alloc (.cells Z2 152)) (.cells Z2 152)
   exact ⟨by simpa using h⟩)
 have HS:Hid (Since w ((w.alloc (.cells Z2 152)).alloc (.cells Z2 152))):=lH (((Since.refl w).alloc _).alloc _)
 unfold Z2 at hr0 hr1 HS
 go_enter Tryz.func164,Tryz.ntmps164
 go_wp2_with fail
 refine wp_scope_some 1 ?_
 go_wp2_with fail
 repeat (first | (with_reducible refine c1.calls ?_; try go_wp2_with fail) | (with_reducible refine c2.calls0 ?_; intro wz hz; replace hr0:=lH (hr0.out.step hz); replace hr1:=lH (hr1.out.step hz); replace HS:=lH (HS.out.step hz); clear hz; try go_wp2_with fail))
 go_still_tail 7,(by kernel_rfl)
 refine wpList_store_row (w:=wz.drew) rfl 152 _ _ rfl (w.heap.size + 1) (C2 I D) (by rfl) (by rfl) _ _ hr1.out.row (c2_info I D) rfl (c2_one I D) ?_
 obtain ⟨W3,hW3⟩:∃ W3,W3 = wz.drew.setRow (w.heap.size + 1) (C2 I D):=⟨_,rfl⟩
 rw [<- hW3]
 have hx1:HR w (w.heap.size + 1) (C2 I D) 152 W3:=⟨by rw [hW3]; exact setRow_heap wz.drew _ _ _ _ _ hr1.out.row⟩
 have hx0:HR w w.heap.size Z2 152 W3:=⟨by rw [hW3]; exact (setRow_other _ _ _ _ (by omega)).trans hr0.out.row⟩
 have hx2:Since w W3:=by rw [hW3]; exact below_setRow (Since.drew HS.out) (by omega) _
 have hg:w.heap.size + 1 < W3.heap.size:=(Array.getElem?_eq_some_iff.1 hx1.row).1
 have m0:W3.cell? ⟨w.heap.size + 1,0,none⟩ = some (.string I):=by rw [hW3]; exact cell_setRow_same _ _ 0 _ _ _ _ hr1.out.row
 have m1:W3.cell? ⟨w.heap.size + 1,1,none⟩ = some (.string D):=by rw [hW3]; exact cell_setRow_same _ _ 1 _ _ _ _ hr1.out.row
 clear hW3
 replace hr0:=lH hx0
 replace HS:=lH hx2
 clear hx0 hx1 hx2 hr1
 go_wp2_with fail
 refine c5.calls0 ?_
 intro wz hz
 replace hr0:=lH (hr0.out.step hz)
 replace m0:=(Below.cell hz (by exact hg)).trans m0
 replace m1:=(Below.cell hz (by exact hg)).trans m1
 replace hg:=Nat.lt_of_lt_of_le hg (Below.size hz)
 replace HS:=lH (HS.out.step hz)
 clear hz
 go_wp2_with fail
 go_step3
 go_wp2_with (refine wpList_store_row rfl 152 _ _ rfl w.heap.size Z2 (by rfl) (by rfl) _ _ hr0.out.row (c2_info ⟨#[]⟩ ⟨#[]⟩) rfl (c2_one ⟨#[]⟩ ⟨#[]⟩) ?_)
 simp only [Exit.jumps]
 exact bodyPost_ret (v:=noO) (results_cell_tmp3 Tryz.results164 _ _ _ _ _ _ _ _ _ rfl rfl rfl (setRow_heap _ _ _ _ _ _ hr0.out.row) Tryz.underlying152 rfl (c2_info ⟨#[]⟩ ⟨#[]⟩)) rfl ⟨rfl,below_setRow HS.out (Nat.le_refl _) _⟩
set_option maxHeartbeats 8000000 in
theorem dec_s3 (s C I D A X:ByteArray) (E:Int) (n:Nat) (hn:4 <= n) (hns:n <= s.size) (hm:s.size <= 100000) (hI:s.extract 0 2 = I) (hD:s.extract 4 n = D) (hA:s.extract 0 n = A) (c1:Ret 106 #[.string s,.int .i64 2,.int .i64 2] (.string C)) (c2:Mak 199 #[.string C] (.tuple #[.int .i64 (n:Int),.bool true])) (c5:Mak 139 #[.agg #[.string I,.string D]] (.tuple #[.string X,.int .i64 E])) (hE:(E == 0) = true) (hA2:(X.toList == A.toList) = true):Mak 164 #[.string s] (.tuple #[.agg (C2 I D),.int .i64 (n:Int),.int .i64 0]):=by
 intro w
 have t0:((n:Int) == 0) = false:=by rw [beq_eq_false_iff_ne]; omega
 have t1:decide ((n:Int) < 4) = false:=decide_eq_false (by omega)
 have t2:decide ((s.size:Int) < (n:Int)) = false:=decide_eq_false (by omega)
 have i1:(2:Int) <= (s.size:Int):=by omega
 have i2:(4:Int) <= (n:Int):=by omega
 have i3:(n:Int) <= (s.size:Int):=by omega
 have i4:(0:Int) <= (n:Int):=by omega
 have hr0:Hid (HR w w.heap.size Z2 152 ((w.alloc (.cells Z2 152)).alloc (.cells Z2 152))):=lH (hr_old ⟨heap_alloc_new w _⟩ _)
 have hr1:Hid (HR w (w.heap.size + 1) Z2 152 ((w.alloc (.cells Z2 152)).alloc (.cells Z2 152))):=lH (by
   have h:=heap_alloc_new (w.alloc (.cells Z2 152)) (.cells Z2 152)
   exact ⟨by simpa using h⟩)
 have HS:Hid (Since w ((w.alloc (.cells Z2 152)).alloc (.cells Z2 152))):=lH (((Since.refl w).alloc _).alloc _)
 unfold Z2 at hr0 hr1 HS
 go_enter Tryz.func164,Tryz.ntmps164
 go_wp2_with fail
 refine wp_scope_some 1 ?_
 go_wp2_with fail
 repeat (first | (with_reducible refine c1.calls ?_; try go_wp2_with fail) | (with_reducible refine c2.calls0 ?_; intro wz hz; replace hr0:=lH (hr0.out.step hz); replace hr1:=lH (hr1.out.step hz); replace HS:=lH (HS.out.step hz); clear hz; try go_wp2_with fail))
 go_still_tail 7,(by kernel_rfl)
 refine wpList_store_row (w:=wz.drew) rfl 152 _ _ rfl (w.heap.size + 1) (C2 I D) (by rfl) (by rfl) _ _ hr1.out.row (c2_info I D) rfl (c2_one I D) ?_
 obtain ⟨W3,hW3⟩:∃ W3,W3 = wz.drew.setRow (w.heap.size + 1) (C2 I D):=⟨_,rfl⟩
 rw [<- hW3]
 have hx1:HR w (w.heap.size + 1) (C2 I D) 152 W3:=⟨by rw [hW3]; exact setRow_heap wz.drew _ _ _ _ _ hr1.out.row⟩
 have hx0:HR w w.heap.size Z2 152 W3:=⟨by rw [hW3]; exact (setRow_other _ _ _ _ (by omega)).trans hr0.out.row⟩
 have hx2:Since w W3:=by rw [hW3]; exact below_setRow (Since.drew HS.out) (by omega) _
 have hg:w.heap.size + 1 < W3.heap.size:=(Array.getElem?_eq_some_iff.1 hx1.row).1
 have m0:W3.cell? ⟨w.heap.size + 1,0,none⟩ = some (.string I):=by rw [hW3]; exact cell_setRow_same _ _ 0 _ _ _ _ hr1.out.row
 have m1:W3.cell? ⟨w.heap.size + 1,1,none⟩ = some (.string D):=by rw [hW3]; exact cell_setRow_same _ _ 1 _ _ _ _ hr1.out.row
 clear hW3
 replace hr0:=lH hx0
 replace HS:=lH hx2
 clear hx0 hx1 hx2 hr1
 go_wp2_with fail
 refine c5.calls0 ?_
 intro wz hz
 replace hr0:=lH (hr0.out.step hz)
 replace m0:=(Below.cell hz (by exact hg)).trans m0
 replace m1:=(Below.cell hz (by exact hg)).trans m1
 replace hg:=Nat.lt_of_lt_of_le hg (Below.size hz)
 replace HS:=lH (HS.out.step hz)
 clear hz
 go_wp2_with (refine wpList_store_row rfl 152 _ _ rfl w.heap.size (C2 I D) (by rfl) (by rfl) _ _ hr0.out.row (c2_info I D) rfl (c2_one I D) ?_)
 simp only [Exit.jumps]
 exact bodyPost_ret (v:=.tuple #[.agg (C2 I D),.int .i64 (n:Int),.int .i64 0]) (results_cell_tmp3 Tryz.results164 _ _ _ _ _ _ _ _ _ rfl rfl rfl (setRow_heap _ _ _ _ _ _ hr0.out.row) Tryz.underlying152 rfl (c2_info I D)) rfl ⟨rfl,below_setRow HS.out (Nat.le_refl _) _⟩
set_option maxHeartbeats 8000000 in
theorem dec_l1 (s C I D A X:ByteArray) (E:Int) (n:Nat) (hn:10 <= n) (hns:n <= s.size) (hm:s.size <= 100000) (hI:s.extract 0 2 = I) (hD:s.extract 10 n = D) (_hA:s.extract 0 n = A) (c1:Ret 106 #[.string s,.int .i64 2,.int .i64 2] (.string C)) (c2:Mak 199 #[.string C] (.tuple #[.int .i64 0,.bool true])) (F:ByteArray) (c3:Ret 106 #[.string s,.int .i64 6,.int .i64 4] (.string F)) (c4:Mak 199 #[.string F] (.tuple #[.int .i64 (n:Int),.bool true])) (c5:Mak 139 #[.agg #[.string I,.string D]] (.tuple #[.string X,.int .i64 E])) (hE:(E == 0) = false):Mak 164 #[.string s] noO:=by
 intro w
 have t1:decide ((n:Int) < 10) = false:=decide_eq_false (by omega)
 have t2:decide ((s.size:Int) < (n:Int)) = false:=decide_eq_false (by omega)
 have i1:(2:Int) <= (s.size:Int):=by omega
 have i2:(10:Int) <= (n:Int):=by omega
 have i3:(n:Int) <= (s.size:Int):=by omega
 have i4:(0:Int) <= (n:Int):=by omega
 have hr0:Hid (HR w w.heap.size Z2 152 ((w.alloc (.cells Z2 152)).alloc (.cells Z2 152))):=lH (hr_old ⟨heap_alloc_new w _⟩ _)
 have hr1:Hid (HR w (w.heap.size + 1) Z2 152 ((w.alloc (.cells Z2 152)).alloc (.cells Z2 152))):=lH (by
   have h:=heap_alloc_new (w.alloc (.cells Z2 152)) (.cells Z2 152)
   exact ⟨by simpa using h⟩)
 have HS:Hid (Since w ((w.alloc (.cells Z2 152)).alloc (.cells Z2 152))):=lH (((Since.refl w).alloc _).alloc _)
 unfold Z2 at hr0 hr1 HS
 go_enter Tryz.func164,Tryz.ntmps164
 go_wp2_with fail
 refine wp_scope_some 1 ?_
 go_wp2_with fail
 repeat (first | (with_reducible refine c1.calls ?_; try go_wp2_with fail) | (with_reducible refine c2.calls0 ?_; intro wz hz; replace hr0:=lH (hr0.out.step hz); replace hr1:=lH (hr1.out.step hz); replace HS:=lH (HS.out.step hz); clear hz; try go_wp2_with fail) | (with_reducible refine c3.calls ?_; try go_wp2_with fail) | (with_reducible refine c4.calls0 ?_; intro wz hz; replace hr0:=lH (hr0.out.step hz); replace hr1:=lH (hr1.out.step hz); replace HS:=lH (HS.out.step hz); clear hz; try go_wp2_with fail))
 go_still_tail 7,(by kernel_rfl)
 refine wpList_store_row (w:=wz.drew) rfl 152 _ _ rfl (w.heap.size + 1) (C2 I D) (by rfl) (by rfl) _ _ hr1.out.row (c2_info I D) rfl (c2_one I D) ?_
 obtain ⟨W3,hW3⟩:∃ W3,W3 = wz.drew.setRow (w.heap.size + 1) (C2 I D):=⟨_,rfl⟩
 rw [<- hW3]
 have hx1:HR w (w.heap.size + 1) (C2 I D) 152 W3:=⟨by rw [hW3]; exact setRow_heap wz.drew _ _ _ _ _ hr1.out.row⟩
 have hx0:HR w w.heap.size Z2 152 W3:=⟨by rw [hW3]; exact (setRow_other _ _ _ _ (by omega)).trans hr0.out.row⟩
 have hx2:Since w W3:=by rw [hW3]; exact below_setRow (Since.drew HS.out) (by omega) _
 have hg:w.heap.size + 1 < W3.heap.size:=(Array.getElem?_eq_some_iff.1 hx1.row).1
 have m0:W3.cell? ⟨w.heap.size + 1,0,none⟩ = some (.string I):=by rw [hW3]; exact cell_setRow_same _ _ 0 _ _ _ _ hr1.out.row
 have m1:W3.cell? ⟨w.heap.size + 1,1,none⟩ = some (.string D):=by rw [hW3]; exact cell_setRow_same _ _ 1 _ _ _ _ hr1.out.row
 clear hW3
 replace hr0:=lH hx0
 replace HS:=lH hx2
 clear hx0 hx1 hx2 hr1
 go_wp2_with fail
 refine c5.calls0 ?_
 intro wz hz
 replace hr0:=lH (hr0.out.step hz)
 replace m0:=(Below.cell hz (by exact hg)).trans m0
 replace m1:=(Below.cell hz (by exact hg)).trans m1
 replace hg:=Nat.lt_of_lt_of_le hg (Below.size hz)
 replace HS:=lH (HS.out.step hz)
 clear hz
 go_wp2_with fail
 go_step3
 go_wp2_with (refine wpList_store_row rfl 152 _ _ rfl w.heap.size Z2 (by rfl) (by rfl) _ _ hr0.out.row (c2_info ⟨#[]⟩ ⟨#[]⟩) rfl (c2_one ⟨#[]⟩ ⟨#[]⟩) ?_)
 simp only [Exit.jumps]
 exact bodyPost_ret (v:=noO) (results_cell_tmp3 Tryz.results164 _ _ _ _ _ _ _ _ _ rfl rfl rfl (setRow_heap _ _ _ _ _ _ hr0.out.row) Tryz.underlying152 rfl (c2_info ⟨#[]⟩ ⟨#[]⟩)) rfl ⟨rfl,below_setRow HS.out (Nat.le_refl _) _⟩
set_option maxHeartbeats 8000000 in
theorem dec_l2 (s C I D A X:ByteArray) (E:Int) (n:Nat) (hn:10 <= n) (hns:n <= s.size) (hm:s.size <= 100000) (hI:s.extract 0 2 = I) (hD:s.extract 10 n = D) (hA:s.extract 0 n = A) (c1:Ret 106 #[.string s,.int .i64 2,.int .i64 2] (.string C)) (c2:Mak 199 #[.string C] (.tuple #[.int .i64 0,.bool true])) (F:ByteArray) (c3:Ret 106 #[.string s,.int .i64 6,.int .i64 4] (.string F)) (c4:Mak 199 #[.string F] (.tuple #[.int .i64 (n:Int),.bool true])) (c5:Mak 139 #[.agg #[.string I,.string D]] (.tuple #[.string X,.int .i64 E])) (hE:(E == 0) = true) (hA2:(X.toList == A.toList) = false):Mak 164 #[.string s] noO:=by
 intro w
 have t1:decide ((n:Int) < 10) = false:=decide_eq_false (by omega)
 have t2:decide ((s.size:Int) < (n:Int)) = false:=decide_eq_false (by omega)
 have i1:(2:Int) <= (s.size:Int):=by omega
 have i2:(10:Int) <= (n:Int):=by omega
 have i3:(n:Int) <= (s.size:Int):=by omega
 have i4:(0:Int) <= (n:Int):=by omega
 have hr0:Hid (HR w w.heap.size Z2 152 ((w.alloc (.cells Z2 152)).alloc (.cells Z2 152))):=lH (hr_old ⟨heap_alloc_new w _⟩ _)
 have hr1:Hid (HR w (w.heap.size + 1) Z2 152 ((w.alloc (.cells Z2 152)).alloc (.cells Z2 152))):=lH (by
   have h:=heap_alloc_new (w.alloc (.cells Z2 152)) (.cells Z2 152)
   exact ⟨by simpa using h⟩)
 have HS:Hid (Since w ((w.alloc (.cells Z2 152)).alloc (.cells Z2 152))):=lH (((Since.refl w).alloc _).alloc _)
 unfold Z2 at hr0 hr1 HS
 go_enter Tryz.func164,Tryz.ntmps164
 go_wp2_with fail
 refine wp_scope_some 1 ?_
 go_wp2_with fail
 repeat (first | (with_reducible refine c1.calls ?_; try go_wp2_with fail) | (with_reducible refine c2.calls0 ?_; intro wz hz; replace hr0:=lH (hr0.out.step hz); replace hr1:=lH (hr1.out.step hz); replace HS:=lH (HS.out.step hz); clear hz; try go_wp2_with fail) | (with_reducible refine c3.calls ?_; try go_wp2_with fail) | (with_reducible refine c4.calls0 ?_; intro wz hz; replace hr0:=lH (hr0.out.step hz); replace hr1:=lH (hr1.out.step hz); replace HS:=lH (HS.out.step hz); clear hz; try go_wp2_with fail))
 go_still_tail 7,(by kernel_rfl)
 refine wpList_store_row (w:=wz.drew) rfl 152 _ _ rfl (w.heap.size + 1) (C2 I D) (by rfl) (by rfl) _ _ hr1.out.row (c2_info I D) rfl (c2_one I D) ?_
 obtain ⟨W3,hW3⟩:∃ W3,W3 = wz.drew.setRow (w.heap.size + 1) (C2 I D):=⟨_,rfl⟩
 rw [<- hW3]
 have hx1:HR w (w.heap.size + 1) (C2 I D) 152 W3:=⟨by rw [hW3]; exact setRow_heap wz.drew _ _ _ _ _ hr1.out.row⟩
 have hx0:HR w w.heap.size Z2 152 W3:=⟨by rw [hW3]; exact (setRow_other _ _ _ _ (by omega)).trans hr0.out.row⟩
 have hx2:Since w W3:=by rw [hW3]; exact below_setRow (Since.drew HS.out) (by omega) _
 have hg:w.heap.size + 1 < W3.heap.size:=(Array.getElem?_eq_some_iff.1 hx1.row).1
 have m0:W3.cell? ⟨w.heap.size + 1,0,none⟩ = some (.string I):=by rw [hW3]; exact cell_setRow_same _ _ 0 _ _ _ _ hr1.out.row
 have m1:W3.cell? ⟨w.heap.size + 1,1,none⟩ = some (.string D):=by rw [hW3]; exact cell_setRow_same _ _ 1 _ _ _ _ hr1.out.row
 clear hW3
 replace hr0:=lH hx0
 replace HS:=lH hx2
 clear hx0 hx1 hx2 hr1
 go_wp2_with fail
 refine c5.calls0 ?_
 intro wz hz
 replace hr0:=lH (hr0.out.step hz)
 replace m0:=(Below.cell hz (by exact hg)).trans m0
 replace m1:=(Below.cell hz (by exact hg)).trans m1
 replace hg:=Nat.lt_of_lt_of_le hg (Below.size hz)
 replace HS:=lH (HS.out.step hz)
 clear hz
 go_wp2_with fail
 go_step3
 go_wp2_with (refine wpList_store_row rfl 152 _ _ rfl w.heap.size Z2 (by rfl) (by rfl) _ _ hr0.out.row (c2_info ⟨#[]⟩ ⟨#[]⟩) rfl (c2_one ⟨#[]⟩ ⟨#[]⟩) ?_)
 simp only [Exit.jumps]
 exact bodyPost_ret (v:=noO) (results_cell_tmp3 Tryz.results164 _ _ _ _ _ _ _ _ _ rfl rfl rfl (setRow_heap _ _ _ _ _ _ hr0.out.row) Tryz.underlying152 rfl (c2_info ⟨#[]⟩ ⟨#[]⟩)) rfl ⟨rfl,below_setRow HS.out (Nat.le_refl _) _⟩
set_option maxHeartbeats 8000000 in
theorem dec_l3 (s C I D A X:ByteArray) (E:Int) (n:Nat) (hn:10 <= n) (hns:n <= s.size) (hm:s.size <= 100000) (hI:s.extract 0 2 = I) (hD:s.extract 10 n = D) (hA:s.extract 0 n = A) (c1:Ret 106 #[.string s,.int .i64 2,.int .i64 2] (.string C)) (c2:Mak 199 #[.string C] (.tuple #[.int .i64 0,.bool true])) (F:ByteArray) (c3:Ret 106 #[.string s,.int .i64 6,.int .i64 4] (.string F)) (c4:Mak 199 #[.string F] (.tuple #[.int .i64 (n:Int),.bool true])) (c5:Mak 139 #[.agg #[.string I,.string D]] (.tuple #[.string X,.int .i64 E])) (hE:(E == 0) = true) (hA2:(X.toList == A.toList) = true):Mak 164 #[.string s] (.tuple #[.agg (C2 I D),.int .i64 (n:Int),.int .i64 0]):=by
 intro w
 have t1:decide ((n:Int) < 10) = false:=decide_eq_false (by omega)
 have t2:decide ((s.size:Int) < (n:Int)) = false:=decide_eq_false (by omega)
 have i1:(2:Int) <= (s.size:Int):=by omega
 have i2:(10:Int) <= (n:Int):=by omega
 have i3:(n:Int) <= (s.size:Int):=by omega
 have i4:(0:Int) <= (n:Int):=by omega
 have hr0:Hid (HR w w.heap.size Z2 152 ((w.alloc (.cells Z2 152)).alloc (.cells Z2 152))):=lH (hr_old ⟨heap_alloc_new w _⟩ _)
 have hr1:Hid (HR w (w.heap.size + 1) Z2 152 ((w.alloc (.cells Z2 152)).alloc (.cells Z2 152))):=lH (by
   have h:=heap_alloc_new (w.alloc (.cells Z2 152)) (.cells Z2 152)
   exact ⟨by simpa using h⟩)
 have HS:Hid (Since w ((w.alloc (.cells Z2 152)).alloc (.cells Z2 152))):=lH (((Since.refl w).alloc _).alloc _)
 unfold Z2 at hr0 hr1 HS
 go_enter Tryz.func164,Tryz.ntmps164
 go_wp2_with fail
 refine wp_scope_some 1 ?_
 go_wp2_with fail
 repeat (first | (with_reducible refine c1.calls ?_; try go_wp2_with fail) | (with_reducible refine c2.calls0 ?_; intro wz hz; replace hr0:=lH (hr0.out.step hz); replace hr1:=lH (hr1.out.step hz); replace HS:=lH (HS.out.step hz); clear hz; try go_wp2_with fail) | (with_reducible refine c3.calls ?_; try go_wp2_with fail) | (with_reducible refine c4.calls0 ?_; intro wz hz; replace hr0:=lH (hr0.out.step hz); replace hr1:=lH (hr1.out.step hz); replace HS:=lH (HS.out.step hz); clear hz; try go_wp2_with fail))
 go_still_tail 7,(by kernel_rfl)
 refine wpList_store_row (w:=wz.drew) rfl 152 _ _ rfl (w.heap.size + 1) (C2 I D) (by rfl) (by rfl) _ _ hr1.out.row (c2_info I D) rfl (c2_one I D) ?_
 obtain ⟨W3,hW3⟩:∃ W3,W3 = wz.drew.setRow (w.heap.size + 1) (C2 I D):=⟨_,rfl⟩
 rw [<- hW3]
 have hx1:HR w (w.heap.size + 1) (C2 I D) 152 W3:=⟨by rw [hW3]; exact setRow_heap wz.drew _ _ _ _ _ hr1.out.row⟩
 have hx0:HR w w.heap.size Z2 152 W3:=⟨by rw [hW3]; exact (setRow_other _ _ _ _ (by omega)).trans hr0.out.row⟩
 have hx2:Since w W3:=by rw [hW3]; exact below_setRow (Since.drew HS.out) (by omega) _
 have hg:w.heap.size + 1 < W3.heap.size:=(Array.getElem?_eq_some_iff.1 hx1.row).1
 have m0:W3.cell? ⟨w.heap.size + 1,0,none⟩ = some (.string I):=by rw [hW3]; exact cell_setRow_same _ _ 0 _ _ _ _ hr1.out.row
 have m1:W3.cell? ⟨w.heap.size + 1,1,none⟩ = some (.string D):=by rw [hW3]; exact cell_setRow_same _ _ 1 _ _ _ _ hr1.out.row
 clear hW3
 replace hr0:=lH hx0
 replace HS:=lH hx2
 clear hx0 hx1 hx2 hr1
 go_wp2_with fail
 refine c5.calls0 ?_
 intro wz hz
 replace hr0:=lH (hr0.out.step hz)
 replace m0:=(Below.cell hz (by exact hg)).trans m0
 replace m1:=(Below.cell hz (by exact hg)).trans m1
 replace hg:=Nat.lt_of_lt_of_le hg (Below.size hz)
 replace HS:=lH (HS.out.step hz)
 clear hz
 go_wp2_with (refine wpList_store_row rfl 152 _ _ rfl w.heap.size (C2 I D) (by rfl) (by rfl) _ _ hr0.out.row (c2_info I D) rfl (c2_one I D) ?_)
 simp only [Exit.jumps]
 exact bodyPost_ret (v:=.tuple #[.agg (C2 I D),.int .i64 (n:Int),.int .i64 0]) (results_cell_tmp3 Tryz.results164 _ _ _ _ _ _ _ _ _ rfl rfl rfl (setRow_heap _ _ _ _ _ _ hr0.out.row) Tryz.underlying152 rfl (c2_info I D)) rfl ⟨rfl,below_setRow HS.out (Nat.le_refl _) _⟩
end Opt
namespace Opt
def numF:List UInt8 -> Int -> Int
 | [],x => x
 | c :: r,x => if Dig.val c.toNat < 0 then -1 else numF r (16 * x + Dig.val c.toNat)
theorem at_drop (s:ByteArray) (k n:Nat) (h:k < s.size) (hn:0 < n):(s.data.toList.drop k).take n = s[k] :: (s.data.toList.drop (k + 1)).take (n - 1):=by
 rw [List.drop_eq_getElem_cons (show k < s.data.toList.length from h)]
 obtain ⟨m,rfl⟩:∃ m,n = m + 1:=⟨n - 1,by omega⟩
 rfl
theorem rnumber_out (s:ByteArray) (a n:Nat) (hs:s.size <= 1000000) (ha:a <= 100) (hn:n <= 4) (h:s.size < a + n):Ret 170 #[.string s,.int .i64 (a:Int),.int .i64 (n:Int)] (.int .i64 (-1)):=by
 intro w
 have t1:decide ((s.size:Int) < (a:Int) + (n:Int)) = true:=decide_eq_true (by omega)
 go_enter Tryz.func170,Tryz.ntmps170
 go_wp2_with fail
 go_ret
 exact ⟨rfl,rfl⟩
set_option maxHeartbeats 1000000 in
theorem rnumber_in (s:ByteArray) (a n:Nat) (hs:s.size <= 1000000) (ha:a <= 100) (hn:n <= 4) (h:a + n <= s.size) (V:Int) (hV:V = numF ((s.data.toList.drop a).take n) 0):Ret 170 #[.string s,.int .i64 (a:Int),.int .i64 (n:Int)] (.int .i64 V):=by
 intro w
 have t1:decide ((s.size:Int) < (a:Int) + (n:Int)) = false:=decide_eq_false (by omega)
 have HV:=lH hV
 clear hV
 go_enter Tryz.func170,Tryz.ntmps170
 go_wp2_with fail
 go_loop [7,8,9] (fun x i _ => ∃ k X:Nat,k <= n /\ i = .int .i64 ((a + k:Nat):Int) /\ x = .int .i64 (X:Int) /\ Hid (X < 16 ^ k) /\ Hid (numF ((s.data.toList.drop (a + k)).take (n - k)) (X:Int) = V)) (fun _ i _ => a + n - (intOf i).toNat)
 case atStart => exact ⟨0,0,by omega,rfl,rfl,lH (by decide),lH HV.out.symm⟩
 case round =>
   obtain ⟨k,X,hk,rfl,rfl,HX,HA⟩:=hrel
   by_cases hlt:k < n
   · have hks:a + k < s.size:=by omega
     have hks1:((a + k:Nat):Int) < (s.size:Int):=by omega
     have hks0:(0:Int) <= ((a + k:Nat):Int):=by omega
     have hx1:X < 4096:=by
       have h1:=HX.out
       have h2:16 ^ k <= 16 ^ 3:=Nat.pow_le_pow_right (by decide) (by omega)
       have h3:(16:Nat) ^ 3 = 4096:=rfl
       omega
     have hv:=Dig.val_lt s[a + k].toNat
     have hA:=HA.out
     rw [at_drop s (a + k) (n - k) hks (by omega)] at hA
     unfold numF at hA
     obtain ⟨q,hq⟩:∃ q,q = Dig.val s[a + k].toNat:=⟨_,rfl⟩
     have c1:Ret 127 #[.int .u8 (s[a + k].toNat:Int)] (.int .i64 q):=fun w => RefDig.value_any _ w s[a + k].toNat_lt q hq
     rw [<- hq] at hv hA
     clear hq HA
     have hc:((a + k:Nat):Int) < (a:Int) + (n:Int):=by omega
     by_cases hneg:q < 0
     · rw [if_pos hneg] at hA
       subst hA
       have t2:decide (q < 0) = true:=decide_eq_true hneg
       clear hc
       go_wp2_with fail
       refine c1.calls ?_
       go_wp2_with fail
       go_ret
       exact ⟨rfl,rfl⟩
     · rw [if_neg hneg] at hA
       obtain ⟨q,rfl⟩:=Int.eq_ofNat_of_zero_le (show 0 <= q by omega)
       have t2:decide ((q:Int) < 0) = false:=decide_eq_false (by omega)
       have HA2:Hid (numF ((s.data.toList.drop (a + (k + 1))).take (n - (k + 1))) ((16 * X + q:Nat):Int) = V):=lH (by
         rw [<- hA,show a + (k + 1) = a + k + 1 by omega,show n - (k + 1) = n - k - 1 by omega]
         congr 1)
       have HX2:Hid (16 * X + q < 16 ^ (k + 1)):=lH (by have:=HX.out; rw [Nat.pow_succ]; omega)
       clear hA HX
       go_wp2_with fail
       refine c1.calls ?_
       go_wp2_with fail
       go_round
       case rel => exact ⟨k + 1,16 * X + q,by omega,by go_num,by go_num,HX2,HA2⟩
       case measure => simp [intOf]; omega
   · obtain rfl:k = n:=by omega
     have hA:=HA.out
     rw [Nat.sub_self,List.take_zero] at hA
     have hA2:(X:Int) = V:=hA
     clear hA HA
     subst hA2
     go_wp2_with fail
     go_ret
     exact ⟨rfl,rfl⟩
set_option maxHeartbeats 4000000 in
theorem rdec_bad2 (s:ByteArray) (n:Int) (hn:(n == 0) = false) (h1:decide (n < 4) = true) (c1:Ret 170 #[.string s,.int .i64 2,.int .i64 2] (.int .i64 n)) (_c2:Ret 170 #[.string s,.int .i64 2,.int .i64 2] (.int .i64 n)):Mak 125 #[.string s] noO:=by
 intro w
 have hr0:Hid (HR w w.heap.size Z2 126 (w.alloc (.cells Z2 126))):=lH ⟨heap_alloc_new w _⟩
 have HS:Hid (Since w (w.alloc (.cells Z2 126))):=lH ((Since.refl w).alloc _)
 unfold Z2 at hr0 HS
 go_enter Tryz.func125,Tryz.ntmps125
 go_wp2_with ((first | (with_reducible refine c1.calls ?_) | (with_reducible refine c2.calls ?_) | (refine wpList_store_row rfl 126 _ _ rfl w.heap.size Z2 (by rfl) (by rfl) _ _ hr0.out.row (rc2_info ⟨#[]⟩ ⟨#[]⟩) rfl (c2_one ⟨#[]⟩ ⟨#[]⟩) ?_)))
 exact bodyPost_ret (v:=noO) (results_cell_tmp3 Tryz.results125 _ _ _ _ _ _ _ _ _ rfl rfl rfl (setRow_heap _ _ _ _ _ _ hr0.out.row) Tryz.underlying126 rfl (rc2_info ⟨#[]⟩ ⟨#[]⟩)) rfl ⟨rfl,below_setRow HS.out (Nat.le_refl _) _⟩
set_option maxHeartbeats 4000000 in
theorem rdec_bad3 (s:ByteArray) (n:Int) (hn:(n == 0) = false) (h1:decide (n < 4) = false) (h2:decide ((s.size:Int) < n) = true) (c1:Ret 170 #[.string s,.int .i64 2,.int .i64 2] (.int .i64 n)) (_c2:Ret 170 #[.string s,.int .i64 2,.int .i64 2] (.int .i64 n)):Mak 125 #[.string s] noO:=by
 intro w
 have hr0:Hid (HR w w.heap.size Z2 126 (w.alloc (.cells Z2 126))):=lH ⟨heap_alloc_new w _⟩
 have HS:Hid (Since w (w.alloc (.cells Z2 126))):=lH ((Since.refl w).alloc _)
 unfold Z2 at hr0 HS
 go_enter Tryz.func125,Tryz.ntmps125
 go_wp2_with ((first | (with_reducible refine c1.calls ?_) | (with_reducible refine c2.calls ?_) | (refine wpList_store_row rfl 126 _ _ rfl w.heap.size Z2 (by rfl) (by rfl) _ _ hr0.out.row (rc2_info ⟨#[]⟩ ⟨#[]⟩) rfl (c2_one ⟨#[]⟩ ⟨#[]⟩) ?_)))
 exact bodyPost_ret (v:=noO) (results_cell_tmp3 Tryz.results125 _ _ _ _ _ _ _ _ _ rfl rfl rfl (setRow_heap _ _ _ _ _ _ hr0.out.row) Tryz.underlying126 rfl (rc2_info ⟨#[]⟩ ⟨#[]⟩)) rfl ⟨rfl,below_setRow HS.out (Nat.le_refl _) _⟩
set_option maxHeartbeats 4000000 in
theorem rdec_bad5 (s:ByteArray) (n:Int) (h1:decide (n < 10) = true) (c1:Ret 170 #[.string s,.int .i64 2,.int .i64 2] (.int .i64 0)) (c2:Ret 170 #[.string s,.int .i64 6,.int .i64 4] (.int .i64 n)):Mak 125 #[.string s] noO:=by
 intro w
 have hr0:Hid (HR w w.heap.size Z2 126 (w.alloc (.cells Z2 126))):=lH ⟨heap_alloc_new w _⟩
 have HS:Hid (Since w (w.alloc (.cells Z2 126))):=lH ((Since.refl w).alloc _)
 unfold Z2 at hr0 HS
 go_enter Tryz.func125,Tryz.ntmps125
 go_wp2_with ((first | (with_reducible refine c1.calls ?_) | (with_reducible refine c2.calls ?_) | (refine wpList_store_row rfl 126 _ _ rfl w.heap.size Z2 (by rfl) (by rfl) _ _ hr0.out.row (rc2_info ⟨#[]⟩ ⟨#[]⟩) rfl (c2_one ⟨#[]⟩ ⟨#[]⟩) ?_)))
 exact bodyPost_ret (v:=noO) (results_cell_tmp3 Tryz.results125 _ _ _ _ _ _ _ _ _ rfl rfl rfl (setRow_heap _ _ _ _ _ _ hr0.out.row) Tryz.underlying126 rfl (rc2_info ⟨#[]⟩ ⟨#[]⟩)) rfl ⟨rfl,below_setRow HS.out (Nat.le_refl _) _⟩
set_option maxHeartbeats 4000000 in
theorem rdec_bad6 (s:ByteArray) (n:Int) (h1:decide (n < 10) = false) (h2:decide ((s.size:Int) < n) = true) (c1:Ret 170 #[.string s,.int .i64 2,.int .i64 2] (.int .i64 0)) (c2:Ret 170 #[.string s,.int .i64 6,.int .i64 4] (.int .i64 n)):Mak 125 #[.string s] noO:=by
 intro w
 have hr0:Hid (HR w w.heap.size Z2 126 (w.alloc (.cells Z2 126))):=lH ⟨heap_alloc_new w _⟩
 have HS:Hid (Since w (w.alloc (.cells Z2 126))):=lH ((Since.refl w).alloc _)
 unfold Z2 at hr0 HS
 go_enter Tryz.func125,Tryz.ntmps125
 go_wp2_with ((first | (with_reducible refine c1.calls ?_) | (with_reducible refine c2.calls ?_) | (refine wpList_store_row rfl 126 _ _ rfl w.heap.size Z2 (by rfl) (by rfl) _ _ hr0.out.row (rc2_info ⟨#[]⟩ ⟨#[]⟩) rfl (c2_one ⟨#[]⟩ ⟨#[]⟩) ?_)))
 exact bodyPost_ret (v:=noO) (results_cell_tmp3 Tryz.results125 _ _ _ _ _ _ _ _ _ rfl rfl rfl (setRow_heap _ _ _ _ _ _ hr0.out.row) Tryz.underlying126 rfl (rc2_info ⟨#[]⟩ ⟨#[]⟩)) rfl ⟨rfl,below_setRow HS.out (Nat.le_refl _) _⟩
set_option maxHeartbeats 8000000 in
theorem rdec_s1 (s I D A X:ByteArray) (E:Int) (n:Nat) (hn:4 <= n) (hns:n <= s.size) (hm:s.size <= 100000) (hI:s.extract 0 2 = I) (hD:s.extract 4 n = D) (_hA:s.extract 0 n = A) (c1:Ret 170 #[.string s,.int .i64 2,.int .i64 2] (.int .i64 (n:Int))) (c5:Mak 108 #[.agg #[.string I,.string D]] (.tuple #[.string X,.int .i64 E])) (hE:(E != 0) = true):Mak 125 #[.string s] noO:=by
 intro w
 have t0:((n:Int) == 0) = false:=by rw [beq_eq_false_iff_ne]; omega
 have t1:decide ((n:Int) < 4) = false:=decide_eq_false (by omega)
 have t2:decide ((s.size:Int) < (n:Int)) = false:=decide_eq_false (by omega)
 have i1:(2:Int) <= (s.size:Int):=by omega
 have i2:(4:Int) <= (n:Int):=by omega
 have i3:(n:Int) <= (s.size:Int):=by omega
 have i4:(0:Int) <= (n:Int):=by omega
 have hr0:Hid (HR w w.heap.size Z2 126 (w.alloc (.cells Z2 126))):=lH ⟨heap_alloc_new w _⟩
 have HS:Hid (Since w (w.alloc (.cells Z2 126))):=lH ((Since.refl w).alloc _)
 unfold Z2 at hr0 HS
 go_enter Tryz.func125,Tryz.ntmps125
 go_wp2_with fail
 repeat (with_reducible refine c1.calls ?_; try go_wp2_with fail)
 go_region
 obtain ⟨W3,hW3⟩:∃ W3,W3 = ((w.alloc (.cells Z2 126)).alloc (.cells (C2 I D) 126)).drew:=⟨_,rfl⟩
 have hx0:HR w w.heap.size Z2 126 W3:=by rw [hW3]; exact (hr_old ⟨heap_alloc_new w _⟩ _).step (Below.drew (Below.refl _ _))
 have hx2:Since w W3:=by rw [hW3]; exact Since.drew (((Since.refl w).alloc _).alloc _)
 have hz:(w.alloc (.cells Z2 126)).heap.size = w.heap.size + 1:=by simp
 have hg:w.heap.size + 1 < W3.heap.size:=by rw [hW3]; show _ < ((w.alloc (.cells Z2 126)).alloc (.cells (C2 I D) 126)).heap.size; simp
 have m0:W3.cell? ⟨w.heap.size + 1,0,none⟩ = some (.string I):=by rw [hW3,<- hz]; exact World.cell?_alloc_new _ _ _ _
 have m1:W3.cell? ⟨w.heap.size + 1,1,none⟩ = some (.string D):=by rw [hW3,<- hz]; exact World.cell?_alloc_new _ _ _ _
 have hW4:=hW3
 unfold Z2 C2 at hW4
 rw [<- hW4]
 clear hW3 hW4 hz
 replace hr0:=lH hx0
 replace HS:=lH hx2
 clear hx0 hx2
 go_wp2_with fail
 refine c5.calls0 ?_
 intro wz hz
 replace hr0:=lH (hr0.out.step hz)
 replace m0:=(Below.cell hz (by exact hg)).trans m0
 replace m1:=(Below.cell hz (by exact hg)).trans m1
 replace hg:=Nat.lt_of_lt_of_le hg (Below.size hz)
 replace HS:=lH (HS.out.step hz)
 clear hz
 go_wp2_with (refine wpList_store_row rfl 126 _ _ rfl w.heap.size Z2 (by rfl) (by rfl) _ _ hr0.out.row (rc2_info ⟨#[]⟩ ⟨#[]⟩) rfl (c2_one ⟨#[]⟩ ⟨#[]⟩) ?_)
 exact bodyPost_ret (v:=noO) (results_cell_tmp3 Tryz.results125 _ _ _ _ _ _ _ _ _ rfl rfl rfl (setRow_heap _ _ _ _ _ _ hr0.out.row) Tryz.underlying126 rfl (rc2_info ⟨#[]⟩ ⟨#[]⟩)) rfl ⟨rfl,below_setRow HS.out (Nat.le_refl _) _⟩
set_option maxHeartbeats 8000000 in
theorem rdec_s2 (s I D A X:ByteArray) (E:Int) (n:Nat) (hn:4 <= n) (hns:n <= s.size) (hm:s.size <= 100000) (hI:s.extract 0 2 = I) (hD:s.extract 4 n = D) (hA:s.extract 0 n = A) (c1:Ret 170 #[.string s,.int .i64 2,.int .i64 2] (.int .i64 (n:Int))) (c5:Mak 108 #[.agg #[.string I,.string D]] (.tuple #[.string X,.int .i64 E])) (hE:(E != 0) = false) (hA2:(!X.toList == A.toList) = true):Mak 125 #[.string s] noO:=by
 intro w
 have t0:((n:Int) == 0) = false:=by rw [beq_eq_false_iff_ne]; omega
 have t1:decide ((n:Int) < 4) = false:=decide_eq_false (by omega)
 have t2:decide ((s.size:Int) < (n:Int)) = false:=decide_eq_false (by omega)
 have i1:(2:Int) <= (s.size:Int):=by omega
 have i2:(4:Int) <= (n:Int):=by omega
 have i3:(n:Int) <= (s.size:Int):=by omega
 have i4:(0:Int) <= (n:Int):=by omega
 have hr0:Hid (HR w w.heap.size Z2 126 (w.alloc (.cells Z2 126))):=lH ⟨heap_alloc_new w _⟩
 have HS:Hid (Since w (w.alloc (.cells Z2 126))):=lH ((Since.refl w).alloc _)
 unfold Z2 at hr0 HS
 go_enter Tryz.func125,Tryz.ntmps125
 go_wp2_with fail
 repeat (with_reducible refine c1.calls ?_; try go_wp2_with fail)
 go_region
 obtain ⟨W3,hW3⟩:∃ W3,W3 = ((w.alloc (.cells Z2 126)).alloc (.cells (C2 I D) 126)).drew:=⟨_,rfl⟩
 have hx0:HR w w.heap.size Z2 126 W3:=by rw [hW3]; exact (hr_old ⟨heap_alloc_new w _⟩ _).step (Below.drew (Below.refl _ _))
 have hx2:Since w W3:=by rw [hW3]; exact Since.drew (((Since.refl w).alloc _).alloc _)
 have hz:(w.alloc (.cells Z2 126)).heap.size = w.heap.size + 1:=by simp
 have hg:w.heap.size + 1 < W3.heap.size:=by rw [hW3]; show _ < ((w.alloc (.cells Z2 126)).alloc (.cells (C2 I D) 126)).heap.size; simp
 have m0:W3.cell? ⟨w.heap.size + 1,0,none⟩ = some (.string I):=by rw [hW3,<- hz]; exact World.cell?_alloc_new _ _ _ _
 have m1:W3.cell? ⟨w.heap.size + 1,1,none⟩ = some (.string D):=by rw [hW3,<- hz]; exact World.cell?_alloc_new _ _ _ _
 have hW4:=hW3
 unfold Z2 C2 at hW4
 rw [<- hW4]
 clear hW3 hW4 hz
 replace hr0:=lH hx0
 replace HS:=lH hx2
 clear hx0 hx2
 go_wp2_with fail
 refine c5.calls0 ?_
 intro wz hz
 replace hr0:=lH (hr0.out.step hz)
 replace m0:=(Below.cell hz (by exact hg)).trans m0
 replace m1:=(Below.cell hz (by exact hg)).trans m1
 replace hg:=Nat.lt_of_lt_of_le hg (Below.size hz)
 replace HS:=lH (HS.out.step hz)
 clear hz
 go_wp2_with (refine wpList_store_row rfl 126 _ _ rfl w.heap.size Z2 (by rfl) (by rfl) _ _ hr0.out.row (rc2_info ⟨#[]⟩ ⟨#[]⟩) rfl (c2_one ⟨#[]⟩ ⟨#[]⟩) ?_)
 exact bodyPost_ret (v:=noO) (results_cell_tmp3 Tryz.results125 _ _ _ _ _ _ _ _ _ rfl rfl rfl (setRow_heap _ _ _ _ _ _ hr0.out.row) Tryz.underlying126 rfl (rc2_info ⟨#[]⟩ ⟨#[]⟩)) rfl ⟨rfl,below_setRow HS.out (Nat.le_refl _) _⟩
set_option maxHeartbeats 8000000 in
theorem rdec_s3 (s I D A X:ByteArray) (E:Int) (n:Nat) (hn:4 <= n) (hns:n <= s.size) (hm:s.size <= 100000) (hI:s.extract 0 2 = I) (hD:s.extract 4 n = D) (hA:s.extract 0 n = A) (c1:Ret 170 #[.string s,.int .i64 2,.int .i64 2] (.int .i64 (n:Int))) (c5:Mak 108 #[.agg #[.string I,.string D]] (.tuple #[.string X,.int .i64 E])) (hE:(E != 0) = false) (hA2:(!X.toList == A.toList) = false):Mak 125 #[.string s] (.tuple #[.agg (C2 I D),.int .i64 (n:Int),.int .i64 0]):=by
 intro w
 have t0:((n:Int) == 0) = false:=by rw [beq_eq_false_iff_ne]; omega
 have t1:decide ((n:Int) < 4) = false:=decide_eq_false (by omega)
 have t2:decide ((s.size:Int) < (n:Int)) = false:=decide_eq_false (by omega)
 have i1:(2:Int) <= (s.size:Int):=by omega
 have i2:(4:Int) <= (n:Int):=by omega
 have i3:(n:Int) <= (s.size:Int):=by omega
 have i4:(0:Int) <= (n:Int):=by omega
 have hr0:Hid (HR w w.heap.size Z2 126 (w.alloc (.cells Z2 126))):=lH ⟨heap_alloc_new w _⟩
 have HS:Hid (Since w (w.alloc (.cells Z2 126))):=lH ((Since.refl w).alloc _)
 unfold Z2 at hr0 HS
 go_enter Tryz.func125,Tryz.ntmps125
 go_wp2_with fail
 repeat (with_reducible refine c1.calls ?_; try go_wp2_with fail)
 go_region
 obtain ⟨W3,hW3⟩:∃ W3,W3 = ((w.alloc (.cells Z2 126)).alloc (.cells (C2 I D) 126)).drew:=⟨_,rfl⟩
 have hx0:HR w w.heap.size Z2 126 W3:=by rw [hW3]; exact (hr_old ⟨heap_alloc_new w _⟩ _).step (Below.drew (Below.refl _ _))
 have hx2:Since w W3:=by rw [hW3]; exact Since.drew (((Since.refl w).alloc _).alloc _)
 have hz:(w.alloc (.cells Z2 126)).heap.size = w.heap.size + 1:=by simp
 have hg:w.heap.size + 1 < W3.heap.size:=by rw [hW3]; show _ < ((w.alloc (.cells Z2 126)).alloc (.cells (C2 I D) 126)).heap.size; simp
 have m0:W3.cell? ⟨w.heap.size + 1,0,none⟩ = some (.string I):=by rw [hW3,<- hz]; exact World.cell?_alloc_new _ _ _ _
 have m1:W3.cell? ⟨w.heap.size + 1,1,none⟩ = some (.string D):=by rw [hW3,<- hz]; exact World.cell?_alloc_new _ _ _ _
 have hW4:=hW3
 unfold Z2 C2 at hW4
 rw [<- hW4]
 clear hW3 hW4 hz
 replace hr0:=lH hx0
 replace HS:=lH hx2
 clear hx0 hx2
 go_wp2_with fail
 refine c5.calls0 ?_
 intro wz hz
 replace hr0:=lH (hr0.out.step hz)
 replace m0:=(Below.cell hz (by exact hg)).trans m0
 replace m1:=(Below.cell hz (by exact hg)).trans m1
 replace hg:=Nat.lt_of_lt_of_le hg (Below.size hz)
 replace HS:=lH (HS.out.step hz)
 clear hz
 go_wp2_with (refine wpList_store_row rfl 126 _ _ rfl w.heap.size (C2 I D) (by rfl) (by rfl) _ _ hr0.out.row (rc2_info I D) rfl (c2_one I D) ?_)
 exact bodyPost_ret (v:=.tuple #[.agg (C2 I D),.int .i64 (n:Int),.int .i64 0]) (results_cell_tmp3 Tryz.results125 _ _ _ _ _ _ _ _ _ rfl rfl rfl (setRow_heap _ _ _ _ _ _ hr0.out.row) Tryz.underlying126 rfl (rc2_info I D)) rfl ⟨rfl,below_setRow HS.out (Nat.le_refl _) _⟩
set_option maxHeartbeats 8000000 in
theorem rdec_l1 (s I D A X:ByteArray) (E:Int) (n:Nat) (hn:10 <= n) (hns:n <= s.size) (hm:s.size <= 100000) (hI:s.extract 0 2 = I) (hD:s.extract 10 n = D) (_hA:s.extract 0 n = A) (c1:Ret 170 #[.string s,.int .i64 2,.int .i64 2] (.int .i64 0)) (c3:Ret 170 #[.string s,.int .i64 6,.int .i64 4] (.int .i64 (n:Int))) (c5:Mak 108 #[.agg #[.string I,.string D]] (.tuple #[.string X,.int .i64 E])) (hE:(E != 0) = true):Mak 125 #[.string s] noO:=by
 intro w
 have t1:decide ((n:Int) < 10) = false:=decide_eq_false (by omega)
 have t2:decide ((s.size:Int) < (n:Int)) = false:=decide_eq_false (by omega)
 have i1:(2:Int) <= (s.size:Int):=by omega
 have i2:(10:Int) <= (n:Int):=by omega
 have i3:(n:Int) <= (s.size:Int):=by omega
 have i4:(0:Int) <= (n:Int):=by omega
 have hr0:Hid (HR w w.heap.size Z2 126 (w.alloc (.cells Z2 126))):=lH ⟨heap_alloc_new w _⟩
 have HS:Hid (Since w (w.alloc (.cells Z2 126))):=lH ((Since.refl w).alloc _)
 unfold Z2 at hr0 HS
 go_enter Tryz.func125,Tryz.ntmps125
 go_wp2_with fail
 repeat ((first | with_reducible refine c1.calls ?_ | with_reducible refine c3.calls ?_); try go_wp2_with fail)
 go_region
 obtain ⟨W3,hW3⟩:∃ W3,W3 = ((w.alloc (.cells Z2 126)).alloc (.cells (C2 I D) 126)).drew:=⟨_,rfl⟩
 have hx0:HR w w.heap.size Z2 126 W3:=by rw [hW3]; exact (hr_old ⟨heap_alloc_new w _⟩ _).step (Below.drew (Below.refl _ _))
 have hx2:Since w W3:=by rw [hW3]; exact Since.drew (((Since.refl w).alloc _).alloc _)
 have hz:(w.alloc (.cells Z2 126)).heap.size = w.heap.size + 1:=by simp
 have hg:w.heap.size + 1 < W3.heap.size:=by rw [hW3]; show _ < ((w.alloc (.cells Z2 126)).alloc (.cells (C2 I D) 126)).heap.size; simp
 have m0:W3.cell? ⟨w.heap.size + 1,0,none⟩ = some (.string I):=by rw [hW3,<- hz]; exact World.cell?_alloc_new _ _ _ _
 have m1:W3.cell? ⟨w.heap.size + 1,1,none⟩ = some (.string D):=by rw [hW3,<- hz]; exact World.cell?_alloc_new _ _ _ _
 have hW4:=hW3
 unfold Z2 C2 at hW4
 rw [<- hW4]
 clear hW3 hW4 hz
 replace hr0:=lH hx0
 replace HS:=lH hx2
 clear hx0 hx2
 go_wp2_with fail
 refine c5.calls0 ?_
 intro wz hz
 replace hr0:=lH (hr0.out.step hz)
 replace m0:=(Below.cell hz (by exact hg)).trans m0
 replace m1:=(Below.cell hz (by exact hg)).trans m1
 replace hg:=Nat.lt_of_lt_of_le hg (Below.size hz)
 replace HS:=lH (HS.out.step hz)
 clear hz
 go_wp2_with (refine wpList_store_row rfl 126 _ _ rfl w.heap.size Z2 (by rfl) (by rfl) _ _ hr0.out.row (rc2_info ⟨#[]⟩ ⟨#[]⟩) rfl (c2_one ⟨#[]⟩ ⟨#[]⟩) ?_)
 exact bodyPost_ret (v:=noO) (results_cell_tmp3 Tryz.results125 _ _ _ _ _ _ _ _ _ rfl rfl rfl (setRow_heap _ _ _ _ _ _ hr0.out.row) Tryz.underlying126 rfl (rc2_info ⟨#[]⟩ ⟨#[]⟩)) rfl ⟨rfl,below_setRow HS.out (Nat.le_refl _) _⟩
set_option maxHeartbeats 8000000 in
theorem rdec_l2 (s I D A X:ByteArray) (E:Int) (n:Nat) (hn:10 <= n) (hns:n <= s.size) (hm:s.size <= 100000) (hI:s.extract 0 2 = I) (hD:s.extract 10 n = D) (hA:s.extract 0 n = A) (c1:Ret 170 #[.string s,.int .i64 2,.int .i64 2] (.int .i64 0)) (c3:Ret 170 #[.string s,.int .i64 6,.int .i64 4] (.int .i64 (n:Int))) (c5:Mak 108 #[.agg #[.string I,.string D]] (.tuple #[.string X,.int .i64 E])) (hE:(E != 0) = false) (hA2:(!X.toList == A.toList) = true):Mak 125 #[.string s] noO:=by
 intro w
 have t1:decide ((n:Int) < 10) = false:=decide_eq_false (by omega)
 have t2:decide ((s.size:Int) < (n:Int)) = false:=decide_eq_false (by omega)
 have i1:(2:Int) <= (s.size:Int):=by omega
 have i2:(10:Int) <= (n:Int):=by omega
 have i3:(n:Int) <= (s.size:Int):=by omega
 have i4:(0:Int) <= (n:Int):=by omega
 have hr0:Hid (HR w w.heap.size Z2 126 (w.alloc (.cells Z2 126))):=lH ⟨heap_alloc_new w _⟩
 have HS:Hid (Since w (w.alloc (.cells Z2 126))):=lH ((Since.refl w).alloc _)
 unfold Z2 at hr0 HS
 go_enter Tryz.func125,Tryz.ntmps125
 go_wp2_with fail
 repeat ((first | with_reducible refine c1.calls ?_ | with_reducible refine c3.calls ?_); try go_wp2_with fail)
 go_region
 obtain ⟨W3,hW3⟩:∃ W3,W3 = ((w.alloc (.cells Z2 126)).alloc (.cells (C2 I D) 126)).drew:=⟨_,rfl⟩
 have hx0:HR w w.heap.size Z2 126 W3:=by rw [hW3]; exact (hr_old ⟨heap_alloc_new w _⟩ _).step (Below.drew (Below.refl _ _))
 have hx2:Since w W3:=by rw [hW3]; exact Since.drew (((Since.refl w).alloc _).alloc _)
 have hz:(w.alloc (.cells Z2 126)).heap.size = w.heap.size + 1:=by simp
 have hg:w.heap.size + 1 < W3.heap.size:=by rw [hW3]; show _ < ((w.alloc (.cells Z2 126)).alloc (.cells (C2 I D) 126)).heap.size; simp
 have m0:W3.cell? ⟨w.heap.size + 1,0,none⟩ = some (.string I):=by rw [hW3,<- hz]; exact World.cell?_alloc_new _ _ _ _
 have m1:W3.cell? ⟨w.heap.size + 1,1,none⟩ = some (.string D):=by rw [hW3,<- hz]; exact World.cell?_alloc_new _ _ _ _
 have hW4:=hW3
 unfold Z2 C2 at hW4
 rw [<- hW4]
 clear hW3 hW4 hz
 replace hr0:=lH hx0
 replace HS:=lH hx2
 clear hx0 hx2
 go_wp2_with fail
 refine c5.calls0 ?_
 intro wz hz
 replace hr0:=lH (hr0.out.step hz)
 replace m0:=(Below.cell hz (by exact hg)).trans m0
 replace m1:=(Below.cell hz (by exact hg)).trans m1
 replace hg:=Nat.lt_of_lt_of_le hg (Below.size hz)
 replace HS:=lH (HS.out.step hz)
 clear hz
 go_wp2_with (refine wpList_store_row rfl 126 _ _ rfl w.heap.size Z2 (by rfl) (by rfl) _ _ hr0.out.row (rc2_info ⟨#[]⟩ ⟨#[]⟩) rfl (c2_one ⟨#[]⟩ ⟨#[]⟩) ?_)
 exact bodyPost_ret (v:=noO) (results_cell_tmp3 Tryz.results125 _ _ _ _ _ _ _ _ _ rfl rfl rfl (setRow_heap _ _ _ _ _ _ hr0.out.row) Tryz.underlying126 rfl (rc2_info ⟨#[]⟩ ⟨#[]⟩)) rfl ⟨rfl,below_setRow HS.out (Nat.le_refl _) _⟩
set_option maxHeartbeats 8000000 in
theorem rdec_l3 (s I D A X:ByteArray) (E:Int) (n:Nat) (hn:10 <= n) (hns:n <= s.size) (hm:s.size <= 100000) (hI:s.extract 0 2 = I) (hD:s.extract 10 n = D) (hA:s.extract 0 n = A) (c1:Ret 170 #[.string s,.int .i64 2,.int .i64 2] (.int .i64 0)) (c3:Ret 170 #[.string s,.int .i64 6,.int .i64 4] (.int .i64 (n:Int))) (c5:Mak 108 #[.agg #[.string I,.string D]] (.tuple #[.string X,.int .i64 E])) (hE:(E != 0) = false) (hA2:(!X.toList == A.toList) = false):Mak 125 #[.string s] (.tuple #[.agg (C2 I D),.int .i64 (n:Int),.int .i64 0]):=by
 intro w
 have t1:decide ((n:Int) < 10) = false:=decide_eq_false (by omega)
 have t2:decide ((s.size:Int) < (n:Int)) = false:=decide_eq_false (by omega)
 have i1:(2:Int) <= (s.size:Int):=by omega
 have i2:(10:Int) <= (n:Int):=by omega
 have i3:(n:Int) <= (s.size:Int):=by omega
 have i4:(0:Int) <= (n:Int):=by omega
 have hr0:Hid (HR w w.heap.size Z2 126 (w.alloc (.cells Z2 126))):=lH ⟨heap_alloc_new w _⟩
 have HS:Hid (Since w (w.alloc (.cells Z2 126))):=lH ((Since.refl w).alloc _)
 unfold Z2 at hr0 HS
 go_enter Tryz.func125,Tryz.ntmps125
 go_wp2_with fail
 repeat ((first | with_reducible refine c1.calls ?_ | with_reducible refine c3.calls ?_); try go_wp2_with fail)
 go_region
 obtain ⟨W3,hW3⟩:∃ W3,W3 = ((w.alloc (.cells Z2 126)).alloc (.cells (C2 I D) 126)).drew:=⟨_,rfl⟩
 have hx0:HR w w.heap.size Z2 126 W3:=by rw [hW3]; exact (hr_old ⟨heap_alloc_new w _⟩ _).step (Below.drew (Below.refl _ _))
 have hx2:Since w W3:=by rw [hW3]; exact Since.drew (((Since.refl w).alloc _).alloc _)
 have hz:(w.alloc (.cells Z2 126)).heap.size = w.heap.size + 1:=by simp
 have hg:w.heap.size + 1 < W3.heap.size:=by rw [hW3]; show _ < ((w.alloc (.cells Z2 126)).alloc (.cells (C2 I D) 126)).heap.size; simp
 have m0:W3.cell? ⟨w.heap.size + 1,0,none⟩ = some (.string I):=by rw [hW3,<- hz]; exact World.cell?_alloc_new _ _ _ _
 have m1:W3.cell? ⟨w.heap.size + 1,1,none⟩ = some (.string D):=by rw [hW3,<- hz]; exact World.cell?_alloc_new _ _ _ _
 have hW4:=hW3
 unfold Z2 C2 at hW4
 rw [<- hW4]
 clear hW3 hW4 hz
 replace hr0:=lH hx0
 replace HS:=lH hx2
 clear hx0 hx2
 go_wp2_with fail
 refine c5.calls0 ?_
 intro wz hz
 replace hr0:=lH (hr0.out.step hz)
 replace m0:=(Below.cell hz (by exact hg)).trans m0
 replace m1:=(Below.cell hz (by exact hg)).trans m1
 replace hg:=Nat.lt_of_lt_of_le hg (Below.size hz)
 replace HS:=lH (HS.out.step hz)
 clear hz
 go_wp2_with (refine wpList_store_row rfl 126 _ _ rfl w.heap.size (C2 I D) (by rfl) (by rfl) _ _ hr0.out.row (rc2_info I D) rfl (c2_one I D) ?_)
 exact bodyPost_ret (v:=.tuple #[.agg (C2 I D),.int .i64 (n:Int),.int .i64 0]) (results_cell_tmp3 Tryz.results125 _ _ _ _ _ _ _ _ _ rfl rfl rfl (setRow_heap _ _ _ _ _ _ hr0.out.row) Tryz.underlying126 rfl (rc2_info I D)) rfl ⟨rfl,below_setRow HS.out (Nat.le_refl _) _⟩
end Opt
namespace Opt
theorem cut_any (s:ByteArray) (a n:Nat) (hs:s.size <= 1000000) (hn:1 <= n) (hn9:n <= 1000000):Ret 106 #[.string s,.int .i64 (a:Int),.int .i64 (n:Int)] (.string (bs ((s.data.toList.drop a).take n))):=by
 intro w
 by_cases h:a < s.size
 · have hc:=Oct.cut_yes s a n w (by omega) (by omega) h hn
   exact hc
 · have hc:=Oct.cut_no s (a:Int) (n:Int) w (by omega) (Or.inr (Or.inl (by omega)))
   have hd:s.data.toList.drop a = []:=List.drop_eq_nil_of_le (by show s.size <= a; omega)
   rw [hd,List.take_nil]
   exact hc
def t2 (s:ByteArray):List UInt8:=(s.data.toList.drop 2).take 2
def t4 (s:ByteArray):List UInt8:=(s.data.toList.drop 6).take 4
def v2 (s:ByteArray):Int:=if s.size < 4 then -1 else numF (t2 s) 0
def v4 (s:ByteArray):Int:=if s.size < 10 then -1 else numF (t4 s) 0
theorem unS_ok (l:List UInt8) (h:Dig.unB l = true):Dig.unS l = strOfNums ((List.range (l.length / 2)).map (Dig.pairV l)):=by unfold Dig.unS; rw [if_pos h]
theorem unS_no (l:List UInt8) (h:Dig.unB l = false):Dig.unS l = ⟨#[]⟩:=by unfold Dig.unS; rw [h]; rfl
theorem unO_no (l:List UInt8) (h:Dig.unB l = false):unO l = false:=by unfold unO; rw [unS_no l h]; rfl
theorem num_one (x:Int) (h:0 <= x /\ x <= 255):((Oct.numN (strOfNums [x]).data.toList:Nat):Int) = x:=by
 rw [nums_list]
 show ((0 * 256 + (UInt8.ofNat x.toNat).toNat:Nat):Int) = x
 rw [UInt8.toNat_ofNat']; omega
theorem num_two (x y:Int) (h:0 <= x /\ x <= 255) (h2:0 <= y /\ y <= 255):((Oct.numN (strOfNums [x,y]).data.toList:Nat):Int) = 256 * x + y:=by
 rw [nums_list]
 show (((0 * 256 + (UInt8.ofNat x.toNat).toNat) * 256 + (UInt8.ofNat y.toNat).toNat:Nat):Int) = 256 * x + y
 rw [UInt8.toNat_ofNat',UInt8.toNat_ofNat']; omega
theorem un_two (a b:UInt8):(if unO [a,b] then unN [a,b] else -1) = numF [a,b] 0:=by
 have ha:=Dig.val_lt a.toNat
 have hb:=Dig.val_lt b.toNat
 have e:Dig.unB [a,b] = (decide (0 <= Dig.val a.toNat) && decide (0 <= Dig.val b.toNat)):=by
   simp [Dig.unB,Dig.okN,Dig.hi,Dig.lo,List.range_succ]
 have hp:Dig.pairV [a,b] 0 = 16 * Dig.val a.toNat + Dig.val b.toNat:=rfl
 show _ = (if Dig.val a.toNat < 0 then -1 else if Dig.val b.toNat < 0 then -1 else 16 * (16 * 0 + Dig.val a.toNat) + Dig.val b.toNat)
 by_cases h1:0 <= Dig.val a.toNat
 · by_cases h2:0 <= Dig.val b.toNat
   · rw [decide_eq_true h1,decide_eq_true h2] at e
     have hs:=unS_ok _ e
     have hr:(List.range ([a,b].length / 2)).map (Dig.pairV [a,b]) = [16 * Dig.val a.toNat + Dig.val b.toNat]:=by simp [Dig.pairV,Dig.hi,Dig.lo,List.range_succ]
     rw [hr] at hs
     have ho:unO [a,b] = true:=by unfold unO; rw [hs]; rfl
     rw [ho,if_pos rfl,if_neg (by omega),if_neg (by omega)]
     unfold unN
     rw [ho,if_pos rfl,hs,num_one _ (by omega)]
     omega
   · rw [decide_eq_false h2,Bool.and_false] at e
     rw [unO_no _ e,if_neg (by decide),if_neg (by omega),if_pos (by omega)]
 · rw [decide_eq_false h1,Bool.false_and] at e
   rw [unO_no _ e,if_neg (by decide),if_pos (by omega)]
theorem un_four (a b c d:UInt8):(if unO [a,b,c,d] then unN [a,b,c,d] else -1) = numF [a,b,c,d] 0:=by
 have ha:=Dig.val_lt a.toNat
 have hb:=Dig.val_lt b.toNat
 have hc:=Dig.val_lt c.toNat
 have hd:=Dig.val_lt d.toNat
 have e:Dig.unB [a,b,c,d] = ((decide (0 <= Dig.val a.toNat) && decide (0 <= Dig.val b.toNat)) && (decide (0 <= Dig.val c.toNat) && decide (0 <= Dig.val d.toNat))):=by
   simp [Dig.unB,Dig.okN,Dig.hi,Dig.lo,List.range_succ]
 show _ = (if Dig.val a.toNat < 0 then -1 else if Dig.val b.toNat < 0 then -1 else if Dig.val c.toNat < 0 then -1 else if Dig.val d.toNat < 0 then -1 else 16 * (16 * (16 * (16 * 0 + Dig.val a.toNat) + Dig.val b.toNat) + Dig.val c.toNat) + Dig.val d.toNat)
 by_cases h1:0 <= Dig.val a.toNat
 · rw [if_neg (show ¬ Dig.val a.toNat < 0 by omega)]
   by_cases h2:0 <= Dig.val b.toNat
   · rw [if_neg (show ¬ Dig.val b.toNat < 0 by omega)]
     by_cases h3:0 <= Dig.val c.toNat
     · rw [if_neg (show ¬ Dig.val c.toNat < 0 by omega)]
       by_cases h4:0 <= Dig.val d.toNat
       · rw [if_neg (show ¬ Dig.val d.toNat < 0 by omega)]
         rw [decide_eq_true h1,decide_eq_true h2,decide_eq_true h3,decide_eq_true h4] at e
         have hs:=unS_ok _ e
         have hr:(List.range ([a,b,c,d].length / 2)).map (Dig.pairV [a,b,c,d]) = [16 * Dig.val a.toNat + Dig.val b.toNat,16 * Dig.val c.toNat + Dig.val d.toNat]:=by simp [Dig.pairV,Dig.hi,Dig.lo,List.range_succ]
         rw [hr] at hs
         have ho:unO [a,b,c,d] = true:=by unfold unO; rw [hs]; rfl
         rw [ho,if_pos rfl]
         unfold unN
         rw [ho,if_pos rfl,hs,num_two _ _ (by omega) (by omega)]
         omega
       · rw [decide_eq_false h4,Bool.and_false,Bool.and_false] at e
         rw [unO_no _ e,if_neg (by decide),if_pos (by omega)]
     · rw [decide_eq_false h3,Bool.false_and,Bool.and_false] at e
       rw [unO_no _ e,if_neg (by decide),if_pos (by omega)]
   · rw [decide_eq_false h2,Bool.and_false,Bool.false_and] at e
     rw [unO_no _ e,if_neg (by decide),if_pos (by omega)]
 · rw [decide_eq_false h1,Bool.false_and,Bool.false_and] at e
   rw [unO_no _ e,if_neg (by decide),if_pos (by omega)]
theorem unN_lo (l:List UInt8):0 <= unN l:=by unfold unN; split <;> omega
theorem unO_len (l:List UInt8) (h:l.length < 2):unO l = false:=by
 have:=unS_size l
 exact decide_eq_false (by omega)
theorem len4 (l:List UInt8) (h:l.length = 4):∃ a b c d,l = [a,b,c,d]:=by
 match l,h with
 | [a,b,c,d],_ => exact ⟨a,b,c,d,rfl⟩
theorem len2 (l:List UInt8) (h:l.length = 2):∃ a b,l = [a,b]:=by
 match l,h with
 | [a,b],_ => exact ⟨a,b,rfl⟩
theorem v2_un (s:ByteArray):v2 s = if unO (t2 s) then unN (t2 s) else -1:=by
 have hl:s.data.toList.length = s.size:=rfl
 have hn:(t2 s).length = min 2 (s.size - 2):=by unfold t2; rw [List.length_take,List.length_drop,hl]
 unfold v2
 split
 · rw [unO_len _ (by omega)]; rfl
 · obtain ⟨a,b,e⟩:=len2 (t2 s) (by omega)
   rw [e]; exact (un_two a b).symm
theorem v4_un (s:ByteArray) (h:10 <= s.size):v4 s = if unO (t4 s) then unN (t4 s) else -1:=by
 have hl:s.data.toList.length = s.size:=rfl
 have hn:(t4 s).length = min 4 (s.size - 6):=by unfold t4; rw [List.length_take,List.length_drop,hl]
 unfold v4
 rw [if_neg (by omega)]
 obtain ⟨a,b,c,d,e⟩:=len4 (t4 s) (by omega)
 rw [e]; exact (un_four a b c d).symm
def hd (s:ByteArray):Int × Nat:=if v2 s = 0 then (v4 s,10) else (v2 s,4)
def okD (s:ByteArray):Bool:=decide (((hd s).2:Int) <= (hd s).1) && decide ((hd s).1 <= (s.size:Int)) && may (s.extract 0 2) (s.extract (hd s).2 (hd s).1.toNat) && decide (enc (s.extract 0 2) (s.extract (hd s).2 (hd s).1.toNat) = s.extract 0 (hd s).1.toNat)
def decI (s:ByteArray):ByteArray:=if okD s then s.extract 0 2 else ⟨#[]⟩
def decD (s:ByteArray):ByteArray:=if okD s then s.extract (hd s).2 (hd s).1.toNat else ⟨#[]⟩
def decN (s:ByteArray):Int:=if okD s then (hd s).1 else 0
def decE (s:ByteArray):Int:=if okD s then 0 else 5
def decV (s:ByteArray):Value:=.tuple #[.agg (C2 (decI s) (decD s)),.int .i64 (decN s),.int .i64 (decE s)]
theorem decV_no (s:ByteArray) (h:okD s = false):decV s = noO:=by
 unfold decV decI decD decN decE
 rw [h]; rfl
theorem decV_yes (s:ByteArray) (n h:Nat) (e:hd s = ((n:Int),h)) (I D:ByteArray) (hI:s.extract 0 2 = I) (hD:s.extract h n = D) (hk:okD s = true):decV s = .tuple #[.agg (C2 I D),.int .i64 (n:Int),.int .i64 0]:=by
 unfold decV decI decD decN decE
 rw [hk,e,if_pos rfl,if_pos rfl,if_pos rfl,if_pos rfl]
 simp only [Int.toNat_natCast]
 rw [hI,hD]
theorem okD_not (s:ByteArray) (n:Int) (h:Nat) (e:hd s = (n,h)) (hb:n < (h:Int) ∨ (s.size:Int) < n):okD s = false:=by
 unfold okD
 rw [e]
 rcases hb with hb | hb
 · rw [decide_eq_false (show ¬ (((n,h):Int × Nat).2:Int) <= ((n,h):Int × Nat).1 from by show ¬ (h:Int) <= n; omega)]; simp
 · rw [decide_eq_false (show ¬ ((n,h):Int × Nat).1 <= (s.size:Int) from by show ¬ n <= (s.size:Int); omega)]; simp
theorem okD_in (s:ByteArray) (n h:Nat) (e:hd s = ((n:Int),h)) (h1:h <= n) (h2:n <= s.size) (I D A:ByteArray) (hI:s.extract 0 2 = I) (hD:s.extract h n = D) (hA:s.extract 0 n = A):okD s = (may I D && decide (enc I D = A)):=by
 subst hI hD hA
 unfold okD
 rw [e]
 simp only [Int.toNat_natCast]
 rw [decide_eq_true (show (h:Int) <= (n:Int) by omega),decide_eq_true (show (n:Int) <= (s.size:Int) by omega)]
 simp
theorem decode_mk (s:ByteArray) (hs:s.size <= 100000):Mak 164 #[.string s] (decV s):=by
 have hl:s.data.toList.length = s.size:=rfl
 have hn2:(t2 s).length = min 2 (s.size - 2):=by unfold t2; rw [List.length_take,List.length_drop,hl]
 have hn4:(t4 s).length = min 4 (s.size - 6):=by unfold t4; rw [List.length_take,List.length_drop,hl]
 have c1:Ret 106 #[.string s,.int .i64 2,.int .i64 2] (.string (bs (t2 s))):=cut_any s 2 2 (by omega) (by decide) (by decide)
 have c3:Ret 106 #[.string s,.int .i64 6,.int .i64 4] (.string (bs (t4 s))):=cut_any s 6 4 (by omega) (by decide) (by decide)
 have c2:=unhex_mak (bs (t2 s)) (by rw [size_bs]; omega)
 have c4:=unhex_mak (bs (t4 s)) (by rw [size_bs]; omega)
 rw [list_bs] at c2 c4
 have hv2:=v2_un s
 have lo2:=unN_lo (t2 s)
 have lo4:=unN_lo (t4 s)
 have fin:∀ (n h:Nat),hd s = ((n:Int),h) -> h <= n -> n <= s.size -> ∀ I D A,s.extract 0 2 = I -> s.extract h n = D -> s.extract 0 n = A ->
     (may I D = true -> enc I D = A -> decV s = .tuple #[.agg (C2 I D),.int .i64 (n:Int),.int .i64 0]) /\ ((may I D = false ∨ enc I D ≠ A) -> decV s = noO):=by
   intro n h e h1 h2 I D A hI hD hA
   have hk:=okD_in s n h e h1 h2 I D A hI hD hA
   refine ⟨fun m1 m2 => decV_yes s n h e I D hI hD (by rw [hk,m1,decide_eq_true m2]; rfl),fun hb => decV_no s ?_⟩
   rw [hk]
   rcases hb with hb | hb
   · rw [hb]; rfl
   · rw [decide_eq_false hb,Bool.and_false]
 cases ho:unO (t2 s) with
 | false =>
   rw [ho,if_neg (by decide)] at hv2
   rw [ho] at c2
   have e:hd s = (-1,4):=by unfold hd; rw [hv2]; rfl
   rw [decV_no s (okD_not s _ _ e (Or.inl (by decide)))]
   exact dec_bad1 s _ _ c1 c2
 | true =>
   rw [ho,if_pos rfl] at hv2
   rw [ho] at c2
   by_cases h0:unN (t2 s) = 0
   · rw [h0] at hv2 c2
     have e:hd s = (v4 s,10):=by unfold hd; rw [if_pos hv2]
     cases ho4:unO (t4 s) with
     | false =>
       rw [ho4] at c4
       have hv4:v4 s = -1:=by
         by_cases h10:10 <= s.size
         · rw [v4_un s h10,ho4]; rfl
         · unfold v4; rw [if_pos (by omega)]
       rw [decV_no s (okD_not s _ _ e (Or.inl (by rw [hv4]; decide)))]
       exact dec_bad4 s _ _ _ c1 c2 c3 c4
     | true =>
       rw [ho4] at c4
       have hpb:(unN (t4 s) < 10 ∨ (s.size:Int) < unN (t4 s)) -> Mak 164 #[.string s] noO:=fun hb => by
         by_cases h1:unN (t4 s) < 10
         · exact dec_bad5 s _ _ _ (decide_eq_true h1) c1 c2 c3 c4
         · exact dec_bad6 s _ _ _ (decide_eq_false h1) (decide_eq_true (by omega)) c1 c2 c3 c4
       by_cases h10:10 <= s.size
       · have hv4:=v4_un s h10
         rw [ho4,if_pos rfl] at hv4
         by_cases hb:v4 s < 10 ∨ (s.size:Int) < v4 s
         · rw [decV_no s (okD_not s _ _ e hb)]
           exact hpb (by rw [<- hv4]; exact hb)
         · obtain ⟨n,hn⟩:∃ n:Nat,v4 s = (n:Int):=⟨(v4 s).toNat,by omega⟩
           rw [hn] at e
           rw [<- hv4,hn] at c4
           obtain ⟨f1,f2⟩:=fin n 10 e (by omega) (by omega) _ _ _ rfl rfl rfl
           have k1:=encode_mak (s.extract 0 2) (s.extract 10 n) (by rw [ByteArray.size_extract]; omega) (by rw [ByteArray.size_extract]; omega) _ _ rfl rfl
           unfold encX encE at k1
           cases hm:may (s.extract 0 2) (s.extract 10 n) with
           | false =>
             rw [hm,if_neg (by decide),if_neg (by decide)] at k1
             rw [f2 (Or.inl hm)]
             exact dec_l1 s _ _ _ _ _ _ n (by omega) (by omega) hs rfl rfl rfl c1 c2 _ c3 c4 k1 (by decide)
           | true =>
             rw [hm,if_pos rfl,if_pos rfl] at k1
             by_cases hA:enc (s.extract 0 2) (s.extract 10 n) = s.extract 0 n
             · rw [f1 hm hA]
               exact dec_l3 s _ _ _ _ _ _ n (by omega) (by omega) hs rfl rfl rfl c1 c2 _ c3 c4 k1 (by decide) (str_eq_t hA)
             · rw [f2 (Or.inr hA)]
               exact dec_l2 s _ _ _ _ _ _ n (by omega) (by omega) hs rfl rfl rfl c1 c2 _ c3 c4 k1 (by decide) (str_ne_f hA)
       · have hv4:v4 s = -1:=by unfold v4; rw [if_pos (by omega)]
         rw [decV_no s (okD_not s _ _ e (Or.inl (by rw [hv4]; decide)))]
         exact hpb (by omega)
   · have e:hd s = (unN (t2 s),4):=by unfold hd; rw [if_neg (by rw [hv2]; exact h0),hv2]
     have hne:(unN (t2 s) == 0) = false:=beq_eq_false_iff_ne.2 h0
     by_cases hb:unN (t2 s) < 4 ∨ (s.size:Int) < unN (t2 s)
     · rw [decV_no s (okD_not s _ _ e hb)]
       by_cases h1:unN (t2 s) < 4
       · exact dec_bad2 s _ _ hne (decide_eq_true h1) c1 c2
       · exact dec_bad3 s _ _ hne (decide_eq_false h1) (decide_eq_true (by omega)) c1 c2
     · obtain ⟨n,hn⟩:∃ n:Nat,unN (t2 s) = (n:Int):=⟨(unN (t2 s)).toNat,by omega⟩
       rw [hn] at e c2
       obtain ⟨f1,f2⟩:=fin n 4 e (by omega) (by omega) _ _ _ rfl rfl rfl
       have k1:=encode_mak (s.extract 0 2) (s.extract 4 n) (by rw [ByteArray.size_extract]; omega) (by rw [ByteArray.size_extract]; omega) _ _ rfl rfl
       unfold encX encE at k1
       cases hm:may (s.extract 0 2) (s.extract 4 n) with
       | false =>
         rw [hm,if_neg (by decide),if_neg (by decide)] at k1
         rw [f2 (Or.inl hm)]
         exact dec_s1 s _ _ _ _ _ _ n (by omega) (by omega) hs rfl rfl rfl c1 c2 k1 (by decide)
       | true =>
         rw [hm,if_pos rfl,if_pos rfl] at k1
         by_cases hA:enc (s.extract 0 2) (s.extract 4 n) = s.extract 0 n
         · rw [f1 hm hA]
           exact dec_s3 s _ _ _ _ _ _ n (by omega) (by omega) hs rfl rfl rfl c1 c2 k1 (by decide) (str_eq_t hA)
         · rw [f2 (Or.inr hA)]
           exact dec_s2 s _ _ _ _ _ _ n (by omega) (by omega) hs rfl rfl rfl c1 c2 k1 (by decide) (str_ne_f hA)
theorem rdecode_mk (s:ByteArray) (hs:s.size <= 100000):Mak 125 #[.string s] (decV s):=by
 have hl:s.data.toList.length = s.size:=rfl
 have hn2:(t2 s).length = min 2 (s.size - 2):=by unfold t2; rw [List.length_take,List.length_drop,hl]
 have hn4:(t4 s).length = min 4 (s.size - 6):=by unfold t4; rw [List.length_take,List.length_drop,hl]
 have hv2:=v2_un s
 have lo2:=unN_lo (t2 s)
 have lo4:=unN_lo (t4 s)
 have r1:Ret 170 #[.string s,.int .i64 2,.int .i64 2] (.int .i64 (v2 s)):=by
   unfold v2
   split
   · exact rnumber_out s 2 2 (by omega) (by decide) (by decide) (by omega)
   · exact rnumber_in s 2 2 (by omega) (by decide) (by decide) (by omega) _ rfl
 have r2:Ret 170 #[.string s,.int .i64 6,.int .i64 4] (.int .i64 (v4 s)):=by
   unfold v4
   split
   · exact rnumber_out s 6 4 (by omega) (by decide) (by decide) (by omega)
   · exact rnumber_in s 6 4 (by omega) (by decide) (by decide) (by omega) _ rfl
 have fin:∀ (n h:Nat),hd s = ((n:Int),h) -> h <= n -> n <= s.size -> ∀ I D A,s.extract 0 2 = I -> s.extract h n = D -> s.extract 0 n = A ->
     (may I D = true -> enc I D = A -> decV s = .tuple #[.agg (C2 I D),.int .i64 (n:Int),.int .i64 0]) /\ ((may I D = false ∨ enc I D ≠ A) -> decV s = noO):=by
   intro n h e h1 h2 I D A hI hD hA
   have hk:=okD_in s n h e h1 h2 I D A hI hD hA
   refine ⟨fun m1 m2 => decV_yes s n h e I D hI hD (by rw [hk,m1,decide_eq_true m2]; rfl),fun hb => decV_no s ?_⟩
   rw [hk]
   rcases hb with hb | hb
   · rw [hb]; rfl
   · rw [decide_eq_false hb,Bool.and_false]
 cases ho:unO (t2 s) with
 | false =>
   rw [ho,if_neg (by decide)] at hv2
   have e:hd s = (-1,4):=by unfold hd; rw [hv2]; rfl
   rw [decV_no s (okD_not s _ _ e (Or.inl (by decide)))]
   rw [hv2] at r1
   exact rdec_bad2 s _ (by decide) (by decide) r1 r1
 | true =>
   rw [ho,if_pos rfl] at hv2
   rw [hv2] at r1
   by_cases h0:unN (t2 s) = 0
   · rw [h0] at hv2 r1
     have e:hd s = (v4 s,10):=by unfold hd; rw [if_pos hv2]
     have hbad:(v4 s < 10 ∨ (s.size:Int) < v4 s) -> Mak 125 #[.string s] noO:=fun hb => by
       by_cases h1:v4 s < 10
       · exact rdec_bad5 s _ (decide_eq_true h1) r1 r2
       · exact rdec_bad6 s _ (decide_eq_false h1) (decide_eq_true (by omega)) r1 r2
     cases ho4:unO (t4 s) with
     | false =>
       have hv4:v4 s = -1:=by
         by_cases h10:10 <= s.size
         · rw [v4_un s h10,ho4]; rfl
         · unfold v4; rw [if_pos (by omega)]
       rw [decV_no s (okD_not s _ _ e (Or.inl (by rw [hv4]; decide)))]
       exact hbad (Or.inl (by rw [hv4]; decide))
     | true =>
       by_cases h10:10 <= s.size
       · have hv4:=v4_un s h10
         rw [ho4,if_pos rfl] at hv4
         by_cases hb:v4 s < 10 ∨ (s.size:Int) < v4 s
         · rw [decV_no s (okD_not s _ _ e hb)]
           exact hbad hb
         · obtain ⟨n,hn⟩:∃ n:Nat,v4 s = (n:Int):=⟨(v4 s).toNat,by omega⟩
           rw [hn] at e r2
           obtain ⟨f1,f2⟩:=fin n 10 e (by omega) (by omega) _ _ _ rfl rfl rfl
           have k2:=rencode_mak (s.extract 0 2) (s.extract 10 n) (by rw [ByteArray.size_extract]; omega) (by rw [ByteArray.size_extract]; omega) _ _ rfl rfl
           unfold encX encE at k2
           cases hm:may (s.extract 0 2) (s.extract 10 n) with
           | false =>
             rw [hm,if_neg (by decide),if_neg (by decide)] at k2
             rw [f2 (Or.inl hm)]
             exact rdec_l1 s _ _ _ _ _ n (by omega) (by omega) hs rfl rfl rfl r1 r2 k2 (by decide)
           | true =>
             rw [hm,if_pos rfl,if_pos rfl] at k2
             by_cases hA:enc (s.extract 0 2) (s.extract 10 n) = s.extract 0 n
             · rw [f1 hm hA]
               exact rdec_l3 s _ _ _ _ _ n (by omega) (by omega) hs rfl rfl rfl r1 r2 k2 (by decide) (str_eq_f hA)
             · rw [f2 (Or.inr hA)]
               exact rdec_l2 s _ _ _ _ _ n (by omega) (by omega) hs rfl rfl rfl r1 r2 k2 (by decide) (str_ne_t hA)
       · have hv4:v4 s = -1:=by unfold v4; rw [if_pos (by omega)]
         rw [decV_no s (okD_not s _ _ e (Or.inl (by rw [hv4]; decide)))]
         exact hbad (Or.inl (by rw [hv4]; decide))
   · have e:hd s = (unN (t2 s),4):=by unfold hd; rw [if_neg (by rw [hv2]; exact h0),hv2]
     have hne:(unN (t2 s) == 0) = false:=beq_eq_false_iff_ne.2 h0
     by_cases hb:unN (t2 s) < 4 ∨ (s.size:Int) < unN (t2 s)
     · rw [decV_no s (okD_not s _ _ e hb)]
       by_cases h1:unN (t2 s) < 4
       · exact rdec_bad2 s _ hne (decide_eq_true h1) r1 r1
       · exact rdec_bad3 s _ hne (decide_eq_false h1) (decide_eq_true (by omega)) r1 r1
     · obtain ⟨n,hn⟩:∃ n:Nat,unN (t2 s) = (n:Int):=⟨(unN (t2 s)).toNat,by omega⟩
       rw [hn] at e r1
       obtain ⟨f1,f2⟩:=fin n 4 e (by omega) (by omega) _ _ _ rfl rfl rfl
       have k2:=rencode_mak (s.extract 0 2) (s.extract 4 n) (by rw [ByteArray.size_extract]; omega) (by rw [ByteArray.size_extract]; omega) _ _ rfl rfl
       unfold encX encE at k2
       cases hm:may (s.extract 0 2) (s.extract 4 n) with
       | false =>
         rw [hm,if_neg (by decide),if_neg (by decide)] at k2
         rw [f2 (Or.inl hm)]
         exact rdec_s1 s _ _ _ _ _ n (by omega) (by omega) hs rfl rfl rfl r1 k2 (by decide)
       | true =>
         rw [hm,if_pos rfl,if_pos rfl] at k2
         by_cases hA:enc (s.extract 0 2) (s.extract 4 n) = s.extract 0 n
         · rw [f1 hm hA]
           exact rdec_s3 s _ _ _ _ _ n (by omega) (by omega) hs rfl rfl rfl r1 k2 (by decide) (str_eq_f hA)
         · rw [f2 (Or.inr hA)]
           exact rdec_s2 s _ _ _ _ _ n (by omega) (by omega) hs rfl rfl rfl r1 k2 (by decide) (str_ne_t hA)
end Opt
end Go.Proofs.YtddlaafpianjbaaGreatDoor
