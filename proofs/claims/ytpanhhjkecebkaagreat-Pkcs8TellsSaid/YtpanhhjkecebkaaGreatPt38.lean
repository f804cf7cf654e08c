import Derived.Test.YtpanhhjkecebkaaGreatPt27
import Derived.Test.YtpanhhjkecebkaaGreatPt36
import Derived.Test.YtpanhhjkecebkaaGreatPt33
import Derived.Test.YtpanhhjkecebkaaGreatPt16
set_option maxRecDepth 100000
namespace Go.Proofs.YtpanhhjkecebkaaGreat
open Go.RowKit
namespace Tlv
open Span Flt
theorem cut_ext (s:ByteArray) (a b:Nat) (h:b <= s.size):cutS s a b = s.extract a b:=by
 unfold cutS;rw [if_pos h]
 apply ba_ext
 rw [list_bs,ByteArray.data_extract,Array.toList_extract,List.extract_eq_take_drop]
theorem total_ret (a b:Nat) (ha:a <= 100000) (hb:b <= 100000):Ret 87 #[.complex .f64 (fl (a:Int)) (fl (b:Int))] (.int .i64 ((a + b:Nat):Int)):=by
 intro w;have e1:=add_is (fl (a:Int)) (fl (b:Int)) a b (fl_is _ (by omega)) (fl_is _ (by omega)) (by omega);have i2:=fl_is ((a + b:Nat):Int) (by omega);have v1:=conv_fi _ _ i2 (by omega);rw [show (a:Int) + (b:Int) = ((a + b:Nat):Int) by omega] at e1;have s1:∀ w,(binOp .add 155 (.float .f64 (fl (a:Int))) (.float .f64 (fl (b:Int)))).run Tryz.prog w = .ok (.float .f64 (fl ((a + b:Nat):Int))) w:=fun w => run_float_arith w .add 155 .f64 _ _ _ e1
 clear i2 e1;generalize fl (a:Int) = F1 at *;generalize fl (b:Int) = F2 at *;generalize fl ((a + b:Nat):Int) = F3 at *
 go_enter Tryz.func87,Tryz.ntmps87
 go_wp2_with fail;go_ret;exact ⟨rfl,rfl⟩
theorem split_ret (p e n:Nat) (h:p + n <= e) (he:e <= 65552) (A:Nat) (hA:A = p + n):Ret 86 #[.complex .f64 (fl (p:Int)) (fl (e:Int)),.int .i64 (n:Int)] (.tuple #[.complex .f64 (fl (p:Int)) (fl (A:Int)),.complex .f64 (fl (A:Int)) (fl (e:Int))]):=by
 intro w;have c1:=from_ret p e ⟨by omega,he⟩;have c2:=to_ret p e ⟨by omega,he⟩;have c3:=of_yes p A ⟨by omega,by omega⟩;have c4:=of_yes A e ⟨by omega,by omega⟩;have hA2:(p:Int) + (n:Int) = (A:Int):=by omega
 rw [<- hA2] at c3 c4 ⊢;have b1:p <= 65552:=by omega
 have b2:n <= 65552:=by omega
 generalize fl (p:Int) = F1 at *;generalize fl ((p:Int) + (n:Int)) = F2 at *;generalize fl (e:Int) = F3 at *;clear h hA hA2
 go_enter Tryz.func86,Tryz.ntmps86
 go_wp2_with fail;refine (c1).calls ?_;go_wp2_with fail;refine (c1).calls ?_;go_wp2_with fail;refine (c3).calls ?_;go_wp2_with fail;refine (c2).calls ?_;go_wp2_with fail;refine (c4).calls ?_;go_wp2_with fail;go_ret2;exact ⟨rfl,rfl⟩
def Z4:Array Value:=#[.int .i64 0,.int .i64 0,.bool false,.int .i64 0]
def H4 (c t:Int) (b:Bool) (n:Int):Array Value:=#[.int .i64 c,.int .i64 t,.bool b,.int .i64 n]
theorem h4_info (c t:Int) (b:Bool) (n:Int):(Tryz.prog.info? 115).map (·.size) = some (H4 c t b n).size:=by kernel_rfl
theorem z4_info:(Tryz.prog.info? 115).map (·.size) = some Z4.size:=by kernel_rfl
theorem h4_one (c t:Int) (b:Bool) (n:Int):(H4 c t b n).all (·.oneCell') = true:=by
 rw [Array.all_eq_true];intro k hk
 match k,hk with
 | 0,_ | 1,_ | 2,_ | 3,_ => rfl
theorem z4_one:Z4.all (·.oneCell') = true:=h4_one 0 0 false 0
theorem results_cell_tmp3 {P:Program} {fn:Func} {p u x:Tmp} {ty:TypeId} (h:fn.results = #[.cell p ty,.tmp u,.tmp x]) (tmps:Array Value) (w:World) (g:Nat) (t:TypeId) (cs:Array Value) (fr:Nat × Nat) (d:TypeDesc) (v z:Value)
   (hp:tmps.getD p undef = .pointer (some ⟨g,0,none⟩)) (hv:tmps.getD u undef = v) (hz:tmps.getD x undef = z) (hg:w.heap[g]? = some (.cells cs t fr))
   (hu:P.underlying ty = some d) (hd:(match d with | .struct _ | .array _ _ => true | _ => false) = true) (hi:(P.info? ty).map (·.size) = some cs.size) :
   (results fn tmps).run P w = .ok (.tuple #[.agg cs,v,z]) w:=by
 subst hv hz;have hp':tmps[p]?.getD undef = .pointer (some ⟨g,0,none⟩):=by simpa using hp
 simp [results,h,hp',asAddr,run_loadVar_row w g t ty cs fr d hg hu hd hi]
set_option maxHeartbeats 4000000 in
theorem meas_err (s d:ByteArray) (A B:Nat) (c t n k x:Int) (b:Bool) (hx:(x != 0) = true) (c1:Ret 88 #[.string s,.complex .f64 A B] (.string d)) (c2:Mak 118 #[.string d] (.tuple #[.agg #[.int .i64 c,.int .i64 t,.bool b,.int .i64 n],.int .i64 k,.int .i64 x])) :
   Mak 85 #[.string s,.complex .f64 A B] (.tuple #[.agg Z4,.complex .f64 0 0,.int .i64 x]):=by
 intro w;have hr0:Hid (HR w w.heap.size Z4 115 (w.alloc (.cells Z4 115))):=lH ⟨heap_alloc_new w _⟩;have HS:Hid (Since w (w.alloc (.cells Z4 115))):=lH ((Since.refl w).alloc _);unfold Z4 at hr0 HS
 go_enter Tryz.func85,Tryz.ntmps85
 go_wp2_with fail;refine (c1).calls ?_;go_wp2_with fail;refine c2.calls0 ?_;intro w1 h1;replace hr0:=lH (hr0.out.step h1);replace HS:=lH (HS.out.step h1);clear h1;have hr1:=lH (hr_old hr0.out (.cells #[.int .i64 c,.int .i64 t,.bool b,.int .i64 n] 115));have HS1:=lH (HS.out.alloc (.cells #[.int .i64 c,.int .i64 t,.bool b,.int .i64 n] 115));have hp:=lH (hb_new w1 KT trivial #[.int .i64 c,.int .i64 t,.bool b,.int .i64 n] 115);obtain ⟨_,m0,m1,m2,m3⟩:=hb4 hp;clear hr0 HS hp;go_wp2_with (refine wpList_store_row rfl 115 _ _ rfl w.heap.size (Z4) (by rfl) (by rfl) _ _ hr1.out.row (z4_info) rfl (z4_one) ?_)
 exact bodyPost_ret (v:=.tuple #[.agg Z4,.complex .f64 0 0,.int .i64 x]) (results_cell_tmp3 Tryz.results85 _ _ _ _ _ _ _ _ _ rfl rfl rfl (setRow_heap _ _ _ _ _ _ hr1.out.row) Tryz.underlying115 rfl (z4_info)) rfl ⟨rfl,below_setRow HS1.out (Nat.le_refl _) _⟩
set_option maxHeartbeats 4000000 in
theorem meas_far (s d:ByteArray) (A B:Nat) (c t n k:Int) (b:Bool) (F1 F2:Nat) (T E P:Int) (hh:decide (E - P < T) = true) (q1:0 <= P) (q2:P <= E) (q3:E <= 70000) (c1:Ret 88 #[.string s,.complex .f64 A B] (.string d))
   (c2:Mak 118 #[.string d] (.tuple #[.agg #[.int .i64 c,.int .i64 t,.bool b,.int .i64 n],.int .i64 k,.int .i64 0]))
   (v1:∀ w,(convert 3 155 (.int .i64 k)).run Tryz.prog w = .ok (.float .f64 F1) w) (v2:∀ w,(convert 3 155 (.int .i64 n)).run Tryz.prog w = .ok (.float .f64 F2) w)
   (c3:Ret 87 #[.complex .f64 F1 F2] (.int .i64 T)) (c4:Ret 84 #[.complex .f64 A B] (.int .i64 E)) (c5:Ret 83 #[.complex .f64 A B] (.int .i64 P)) :
   Mak 85 #[.string s,.complex .f64 A B] (.tuple #[.agg Z4,.complex .f64 0 0,.int .i64 5]):=by
 intro w;have hr0:Hid (HR w w.heap.size Z4 115 (w.alloc (.cells Z4 115))):=lH ⟨heap_alloc_new w _⟩;have HS:Hid (Since w (w.alloc (.cells Z4 115))):=lH ((Since.refl w).alloc _);unfold Z4 at hr0 HS
 go_enter Tryz.func85,Tryz.ntmps85
 go_wp2_with fail;refine (c1).calls ?_;go_wp2_with fail;refine c2.calls0 ?_;intro w1 h1;replace hr0:=lH (hr0.out.step h1);replace HS:=lH (HS.out.step h1);clear h1;have hr1:=lH (hr_old hr0.out (.cells #[.int .i64 c,.int .i64 t,.bool b,.int .i64 n] 115));have HS1:=lH (HS.out.alloc (.cells #[.int .i64 c,.int .i64 t,.bool b,.int .i64 n] 115));have hp:=lH (hb_new w1 KT trivial #[.int .i64 c,.int .i64 t,.bool b,.int .i64 n] 115);obtain ⟨_,m0,m1,m2,m3⟩:=hb4 hp;clear hr0 HS hp;go_wp2_with fail;refine (c3).calls ?_;go_wp2_with fail;refine (c4).calls ?_;go_wp2_with fail;refine (c5).calls ?_;go_wp2_with (refine wpList_store_row rfl 115 _ _ rfl w.heap.size (Z4) (by rfl) (by rfl) _ _ hr1.out.row (z4_info) rfl (z4_one) ?_)
 exact bodyPost_ret (v:=.tuple #[.agg Z4,.complex .f64 0 0,.int .i64 5]) (results_cell_tmp3 Tryz.results85 _ _ _ _ _ _ _ _ _ rfl rfl rfl (setRow_heap _ _ _ _ _ _ hr1.out.row) Tryz.underlying115 rfl (z4_info)) rfl ⟨rfl,below_setRow HS1.out (Nat.le_refl _) _⟩
set_option maxHeartbeats 4000000 in
theorem meas_ok (s d:ByteArray) (A B:Nat) (c t n k:Int) (b:Bool) (F1 F2:Nat) (T E P:Int) (hh:decide (E - P < T) = false) (q1:0 <= P) (q2:P <= E) (q3:E <= 70000) (c1:Ret 88 #[.string s,.complex .f64 A B] (.string d))
   (c2:Mak 118 #[.string d] (.tuple #[.agg #[.int .i64 c,.int .i64 t,.bool b,.int .i64 n],.int .i64 k,.int .i64 0]))
   (v1:∀ w,(convert 3 155 (.int .i64 k)).run Tryz.prog w = .ok (.float .f64 F1) w) (v2:∀ w,(convert 3 155 (.int .i64 n)).run Tryz.prog w = .ok (.float .f64 F2) w)
   (c3:Ret 87 #[.complex .f64 F1 F2] (.int .i64 T)) (c4:Ret 84 #[.complex .f64 A B] (.int .i64 E)) (c5:Ret 83 #[.complex .f64 A B] (.int .i64 P)) :
   Mak 85 #[.string s,.complex .f64 A B] (.tuple #[.agg (H4 c t b n),.complex .f64 F1 F2,.int .i64 0]):=by
 intro w;have hr0:Hid (HR w w.heap.size Z4 115 (w.alloc (.cells Z4 115))):=lH ⟨heap_alloc_new w _⟩;have HS:Hid (Since w (w.alloc (.cells Z4 115))):=lH ((Since.refl w).alloc _);unfold Z4 at hr0 HS
 go_enter Tryz.func85,Tryz.ntmps85
 go_wp2_with fail;refine (c1).calls ?_;go_wp2_with fail;refine c2.calls0 ?_;intro w1 h1;replace hr0:=lH (hr0.out.step h1);replace HS:=lH (HS.out.step h1);clear h1;have hr1:=lH (hr_old hr0.out (.cells #[.int .i64 c,.int .i64 t,.bool b,.int .i64 n] 115));have HS1:=lH (HS.out.alloc (.cells #[.int .i64 c,.int .i64 t,.bool b,.int .i64 n] 115));have hp:=lH (hb_new w1 KT trivial #[.int .i64 c,.int .i64 t,.bool b,.int .i64 n] 115);obtain ⟨_,m0,m1,m2,m3⟩:=hb4 hp;clear hr0 HS hp;go_wp2_with fail;refine (c3).calls ?_;go_wp2_with fail;refine (c4).calls ?_;go_wp2_with fail;refine (c5).calls ?_;go_wp2_with (refine wpList_store_row rfl 115 _ _ rfl w.heap.size (H4 c t b n) (by rfl) (by rfl) _ _ hr1.out.row (h4_info c t b n) rfl (h4_one c t b n) ?_)
 exact bodyPost_ret (v:=.tuple #[.agg (H4 c t b n),.complex .f64 F1 F2,.int .i64 0]) (results_cell_tmp3 Tryz.results85 _ _ _ _ _ _ _ _ _ rfl rfl rfl (setRow_heap _ _ _ _ _ _ hr1.out.row) Tryz.underlying115 rfl (h4_info c t b n)) rfl ⟨rfl,below_setRow HS1.out (Nat.le_refl _) _⟩
theorem cut_pe (s:ByteArray) (p e:Nat) (h:p <= e) (he:e <= s.size) (hs:s.size <= 65535):Ret 88 #[.string s,.complex .f64 (fl (p:Int)) (fl (e:Int))] (.string (s.extract p e)) :=
 cut_ret s p e ⟨h,by omega⟩ (by omega) _ (cut_ext s p e he).symm
def measV (s:ByteArray) (p e:Nat):Value :=
 match Head.dec (s.extract p e).data.toList with
 | (h,k,x) => if x ≠ 0 then .tuple #[.agg Z4,.complex .f64 0 0,.int .i64 (x:Int)] else if e - p < k + h.n then .tuple #[.agg Z4,.complex .f64 0 0,.int .i64 5]
   else .tuple #[.agg (H4 h.c h.t h.b h.n),.complex .f64 (fl (k:Int)) (fl (h.n:Int)),.int .i64 0]
theorem meas_mak (s:ByteArray) (p e:Nat) (h:p <= e) (he:e <= s.size) (hs:s.size <= 65535):Mak 85 #[.string s,.complex .f64 (fl (p:Int)) (fl (e:Int))] (measV s p e):=by
 have hd:(s.extract p e).size = e - p:=by rw [ByteArray.size_extract]; omega
 have c1:=cut_pe s p e h he hs;have c2:=Head.dec_mak (s.extract p e) (by omega) _ rfl;have c4:=to_ret p e ⟨h,by omega⟩;have c5:=from_ret p e ⟨h,by omega⟩;unfold measV;obtain ⟨hh,k,x,hq⟩:∃ hh k x,Head.dec (s.extract p e).data.toList = (hh,k,x):=⟨_,_,_,rfl⟩
 rw [hq] at c2 ⊢;dsimp only
 by_cases hx:x ≠ 0
 · rw [if_pos hx];exact meas_err s _ _ _ _ _ _ _ _ _ (by rw [bne_iff_ne]; omega) c1 c2
 · rw [if_neg hx];obtain rfl:x = 0:=by omega
   obtain ⟨g1,g2,g3,g4,g5⟩:=Head.enc_dec _ _ _ hq;have gl:(Head.encL hh.c hh.t hh.b hh.n).length = k:=by rw [g5,List.length_take]; omega
   have:=(Head.encL_len hh.c hh.t hh.b hh.n).1;have c3:=total_ret k hh.n (by omega) (by omega)
   by_cases hf:e - p < k + hh.n
   · rw [if_pos hf];exact meas_far s _ _ _ _ _ _ _ _ _ _ _ _ _ (decide_eq_true (by omega)) (by omega) (by omega) (by omega) c1 c2 (conv_if _) (conv_if _) c3 c4 c5
   · rw [if_neg hf];exact meas_ok s _ _ _ _ _ _ _ _ _ _ _ _ _ (decide_eq_false (by omega)) (by omega) (by omega) (by omega) c1 c2 (conv_if _) (conv_if _) c3 c4 c5
def judE (c t:Int) (b:Bool) (d:ByteArray) (deep cnt:Int):Int :=
 if 16 < deep then 6 else if 1000 <= cnt then 4 else if c ≠ 0 then 0 else if b then (if t = 16 ∨ t = 17 then 0 else 5) else if Strs.rightB t d then 0 else 5
set_option maxHeartbeats 2000000 in
theorem jud_1 (c t:Int) (b:Bool) (d:ByteArray) (deep cnt:Int) (h1:decide (16 < deep) = true):Mak 136 #[.agg #[.int .i64 c,.int .i64 t,.bool b,.string d,.slice none 0 0],.int .i64 deep,.int .i64 cnt] (.int .i64 6):=by
 intro w;have hp:=lH (hb_new w KT trivial #[.int .i64 c,.int .i64 t,.bool b,.string d,.slice none 0 0] 87);have m0:=hp.out.cell 0 _ rfl;have m1:=hp.out.cell 1 _ rfl;have m2:=hp.out.cell 2 _ rfl;have m3:=hp.out.cell 3 _ rfl;have HS:=lH hp.out.since;clear hp
 try subst hb
 go_enter Tryz.func136,Tryz.ntmps136
 go_wp2_with fail
 skip
 go_ret;exact ⟨rfl,HS.out⟩
set_option maxHeartbeats 2000000 in
theorem jud_2 (c t:Int) (b:Bool) (d:ByteArray) (deep cnt:Int) (h1:decide (16 < deep) = false) (h2:decide (1000 <= cnt) = true):Mak 136 #[.agg #[.int .i64 c,.int .i64 t,.bool b,.string d,.slice none 0 0],.int .i64 deep,.int .i64 cnt] (.int .i64 4):=by
 intro w;have hp:=lH (hb_new w KT trivial #[.int .i64 c,.int .i64 t,.bool b,.string d,.slice none 0 0] 87);have m0:=hp.out.cell 0 _ rfl;have m1:=hp.out.cell 1 _ rfl;have m2:=hp.out.cell 2 _ rfl;have m3:=hp.out.cell 3 _ rfl;have HS:=lH hp.out.since;clear hp
 try subst hb
 go_enter Tryz.func136,Tryz.ntmps136
 go_wp2_with fail
 skip
 go_ret;exact ⟨rfl,HS.out⟩
set_option maxHeartbeats 2000000 in
theorem jud_3 (c t:Int) (b:Bool) (d:ByteArray) (deep cnt:Int) (h1:decide (16 < deep) = false) (h2:decide (1000 <= cnt) = false) (h3:(c != 0) = true):Mak 136 #[.agg #[.int .i64 c,.int .i64 t,.bool b,.string d,.slice none 0 0],.int .i64 deep,.int .i64 cnt] (.int .i64 0):=by
 intro w;have hp:=lH (hb_new w KT trivial #[.int .i64 c,.int .i64 t,.bool b,.string d,.slice none 0 0] 87);have m0:=hp.out.cell 0 _ rfl;have m1:=hp.out.cell 1 _ rfl;have m2:=hp.out.cell 2 _ rfl;have m3:=hp.out.cell 3 _ rfl;have HS:=lH hp.out.since;clear hp
 try subst hb
 go_enter Tryz.func136,Tryz.ntmps136
 go_wp2_with fail
 skip
 go_ret;exact ⟨rfl,HS.out⟩
set_option maxHeartbeats 2000000 in
theorem jud_4 (c t:Int) (b:Bool) (d:ByteArray) (deep cnt:Int) (h1:decide (16 < deep) = false) (h2:decide (1000 <= cnt) = false) (h3:(c != 0) = false) (hb:b = true) (h4:(t == 16) = true):Mak 136 #[.agg #[.int .i64 c,.int .i64 t,.bool b,.string d,.slice none 0 0],.int .i64 deep,.int .i64 cnt] (.int .i64 0):=by
 intro w;have hp:=lH (hb_new w KT trivial #[.int .i64 c,.int .i64 t,.bool b,.string d,.slice none 0 0] 87);have m0:=hp.out.cell 0 _ rfl;have m1:=hp.out.cell 1 _ rfl;have m2:=hp.out.cell 2 _ rfl;have m3:=hp.out.cell 3 _ rfl;have HS:=lH hp.out.since;clear hp
 try subst hb
 go_enter Tryz.func136,Tryz.ntmps136
 go_wp2_with fail
 skip
 go_ret;exact ⟨rfl,HS.out⟩
set_option maxHeartbeats 2000000 in
theorem jud_5 (c t:Int) (b:Bool) (d:ByteArray) (deep cnt:Int) (h1:decide (16 < deep) = false) (h2:decide (1000 <= cnt) = false) (h3:(c != 0) = false) (hb:b = true) (h4:(t == 16) = false) (h5:(t == 17) = true):Mak 136 #[.agg #[.int .i64 c,.int .i64 t,.bool b,.string d,.slice none 0 0],.int .i64 deep,.int .i64 cnt] (.int .i64 0):=by
 intro w;have hp:=lH (hb_new w KT trivial #[.int .i64 c,.int .i64 t,.bool b,.string d,.slice none 0 0] 87);have m0:=hp.out.cell 0 _ rfl;have m1:=hp.out.cell 1 _ rfl;have m2:=hp.out.cell 2 _ rfl;have m3:=hp.out.cell 3 _ rfl;have HS:=lH hp.out.since;clear hp
 try subst hb
 go_enter Tryz.func136,Tryz.ntmps136
 go_wp2_with fail
 skip
 go_ret;exact ⟨rfl,HS.out⟩
set_option maxHeartbeats 2000000 in
theorem jud_6 (c t:Int) (b:Bool) (d:ByteArray) (deep cnt:Int) (h1:decide (16 < deep) = false) (h2:decide (1000 <= cnt) = false) (h3:(c != 0) = false) (hb:b = true) (h4:(t == 16) = false) (h5:(t == 17) = false):Mak 136 #[.agg #[.int .i64 c,.int .i64 t,.bool b,.string d,.slice none 0 0],.int .i64 deep,.int .i64 cnt] (.int .i64 5):=by
 intro w;have hp:=lH (hb_new w KT trivial #[.int .i64 c,.int .i64 t,.bool b,.string d,.slice none 0 0] 87);have m0:=hp.out.cell 0 _ rfl;have m1:=hp.out.cell 1 _ rfl;have m2:=hp.out.cell 2 _ rfl;have m3:=hp.out.cell 3 _ rfl;have HS:=lH hp.out.since;clear hp
 try subst hb
 go_enter Tryz.func136,Tryz.ntmps136
 go_wp2_with fail
 skip
 go_ret;exact ⟨rfl,HS.out⟩
set_option maxHeartbeats 2000000 in
theorem jud_7 (c t:Int) (b:Bool) (d:ByteArray) (deep cnt:Int) (h1:decide (16 < deep) = false) (h2:decide (1000 <= cnt) = false) (h3:(c != 0) = false) (hb:b = false) (c1:Mak 163 #[.int .i64 t,.string d] (.bool true)):Mak 136 #[.agg #[.int .i64 c,.int .i64 t,.bool b,.string d,.slice none 0 0],.int .i64 deep,.int .i64 cnt] (.int .i64 0):=by
 intro w;have hp:=lH (hb_new w KT trivial #[.int .i64 c,.int .i64 t,.bool b,.string d,.slice none 0 0] 87);have m0:=hp.out.cell 0 _ rfl;have m1:=hp.out.cell 1 _ rfl;have m2:=hp.out.cell 2 _ rfl;have m3:=hp.out.cell 3 _ rfl;have HS:=lH hp.out.since;clear hp
 try subst hb
 go_enter Tryz.func136,Tryz.ntmps136
 go_wp2_with fail
 (refine c1.calls HS.out ?_; intro w1 h1; replace HS:=lH h1; clear h1; go_wp2_with fail)
 go_ret;exact ⟨rfl,HS.out⟩
set_option maxHeartbeats 2000000 in
theorem jud_8 (c t:Int) (b:Bool) (d:ByteArray) (deep cnt:Int) (h1:decide (16 < deep) = false) (h2:decide (1000 <= cnt) = false) (h3:(c != 0) = false) (hb:b = false) (c1:Mak 163 #[.int .i64 t,.string d] (.bool false)):Mak 136 #[.agg #[.int .i64 c,.int .i64 t,.bool b,.string d,.slice none 0 0],.int .i64 deep,.int .i64 cnt] (.int .i64 5):=by
 intro w;have hp:=lH (hb_new w KT trivial #[.int .i64 c,.int .i64 t,.bool b,.string d,.slice none 0 0] 87);have m0:=hp.out.cell 0 _ rfl;have m1:=hp.out.cell 1 _ rfl;have m2:=hp.out.cell 2 _ rfl;have m3:=hp.out.cell 3 _ rfl;have HS:=lH hp.out.since;clear hp
 try subst hb
 go_enter Tryz.func136,Tryz.ntmps136
 go_wp2_with fail
 (refine c1.calls HS.out ?_; intro w1 h1; replace HS:=lH h1; clear h1; go_wp2_with fail)
 go_ret;exact ⟨rfl,HS.out⟩
theorem jud_mak (c t:Int) (b:Bool) (d:ByteArray) (deep cnt:Int) (hd:d.size <= 1000000):Mak 136 #[.agg #[.int .i64 c,.int .i64 t,.bool b,.string d,.slice none 0 0],.int .i64 deep,.int .i64 cnt] (.int .i64 (judE c t b d deep cnt)):=by
 unfold judE
 by_cases h1:16 < deep
 · rw [if_pos h1]; exact jud_1 c t b d deep cnt (decide_eq_true h1)
 rw [if_neg h1]
 by_cases h2:1000 <= cnt
 · rw [if_pos h2]; exact jud_2 c t b d deep cnt (decide_eq_false h1) (decide_eq_true h2)
 rw [if_neg h2]
 by_cases h3:c ≠ 0
 · rw [if_pos h3]; exact jud_3 c t b d deep cnt (decide_eq_false h1) (decide_eq_false h2) (by rw [bne_iff_ne]; exact h3)
 rw [if_neg h3];have k3:(c != 0) = false:=by rw [bne_eq_false_iff_eq]; omega
 cases b with
 | true =>
   rw [if_pos rfl]
   by_cases h4:t = 16
   · rw [if_pos (.inl h4)]; exact jud_4 c t true d deep cnt (decide_eq_false h1) (decide_eq_false h2) k3 rfl (beq_iff_eq.2 h4)
   · by_cases h5:t = 17
     · rw [if_pos (.inr h5)]; exact jud_5 c t true d deep cnt (decide_eq_false h1) (decide_eq_false h2) k3 rfl (beq_eq_false_iff_ne.2 h4) (beq_iff_eq.2 h5)
     · rw [if_neg (by omega)]; exact jud_6 c t true d deep cnt (decide_eq_false h1) (decide_eq_false h2) k3 rfl (beq_eq_false_iff_ne.2 h4) (beq_eq_false_iff_ne.2 h5)
 | false =>
   rw [if_neg (by decide)];have c1:=Strs.right_mak t d hd;cases hr:Strs.rightB t d with
   | true => rw [hr] at c1; rw [if_pos rfl]; exact jud_7 c t false d deep cnt (decide_eq_false h1) (decide_eq_false h2) k3 rfl c1
   | false => rw [hr] at c1; rw [if_neg (by decide)]; exact jud_8 c t false d deep cnt (decide_eq_false h1) (decide_eq_false h2) k3 rfl c1
end Tlv
namespace Tlv
open Span Flt
def lv (E:Nat -> Nat) (size:Nat):Nat -> Nat -> Nat -> Nat × Nat × Nat
 | 0,p,e => (0,p,e)
 | m + 1,p,e => if p = e then lv E size m e (if m = 0 then size else E (m - 1)) else (m + 1,p,e)
def lenOf:Value -> Nat
 | .slice _ n _ => n
 | _ => 0
theorem leave_none (w:World) (S:Value) (A:Option Addr) (c p e size:Nat):Calls Tryz.prog 137 #[S,.slice A 0 c,.complex .f64 (fl (p:Int)) (fl (e:Int)),.int .i64 (size:Int)] w fun x w' => x = .returned (.tuple #[.slice A 0 c,.complex .f64 (fl (p:Int)) (fl (e:Int))]) /\ w = w':=by
 generalize fl (p:Int) = F1;generalize fl (e:Int) = F2
 go_enter Tryz.func137,Tryz.ntmps137
 go_wp2_with fail
 go_loop [1,2] (fun ov rv => ov = .slice A 0 c /\ rv = .complex .f64 F1 F2) (fun _ _ => 0)
 case atStart => exact ⟨rfl,rfl⟩
 case round =>
   obtain ⟨rfl,rfl⟩:=hrel;go_wp2_with fail;go_ret2;exact ⟨rfl,rfl⟩
set_option maxHeartbeats 4000000 in
theorem leave_some (w:World) (bo oo co b2 o2 N c2 n:Nat) (O B E:Nat -> Nat) (size:Nat) (hO:∀ i,i < n -> w.cell? ⟨bo,oo + i,none⟩ = some (.int .i64 ((O i:Nat):Int))) (hON:∀ i,i < n -> O i < N)
   (hS:∀ i,i < n -> w.cell? ⟨b2,o2 + O i,none⟩ = some (.complex .f64 (fl ((B i:Nat):Int)) (fl ((E i:Nat):Int)))) (hE:∀ i,i < n -> Sp (B i) (E i)) (hmono:∀ i,i + 1 < n -> E (i + 1) <= E i) (hE0:0 < n -> E 0 <= size) (hsz:size <= 65535)
   (p e:Nat) (hp:p <= e) (hn:0 < n) (he:e = E (n - 1)) (hco:n <= co) (hcm:co <= maxLen) (hNm:N <= maxLen) (M P Q:Nat) (hR:lv E size n p e = (M,P,Q)) :
   Calls Tryz.prog 137 #[.slice (some ⟨b2,o2,none⟩) N c2,.slice (some ⟨bo,oo,none⟩) n co,.complex .f64 (fl (p:Int)) (fl (e:Int)),.int .i64 (size:Int)] w fun x w' => x = .returned (.tuple #[.slice (some ⟨bo,oo,none⟩) M co,.complex .f64 (fl (P:Int)) (fl (Q:Int))]) /\ w = w':=by
 have HO:=lH hO;have HON:=lH hON;have HSP:=lH hS;have HE:=lH hE;have HM:=lH hmono;have HE0:=lH hE0;have HR:=lH hR;have hme:e <= 65535:=by
   have h9:∀ i,i < n -> E i <= size:=by
     intro i
     induction i with
     | zero => exact hE0
     | succ i ih => intro hi; exact Nat.le_trans (hmono i hi) (ih (by omega))
   have:=h9 (n - 1) (by omega);omega
 have hco2:co <= 9223372036854775807:=by unfold maxLen at hcm; omega
 have hN2:N <= 9223372036854775807:=by unfold maxLen at hNm; omega
 clear hO hON hS hE hmono hE0 hR hcm hNm
 go_enter Tryz.func137,Tryz.ntmps137
 go_wp2_with fail
 go_loop [1,2] (fun ov rv => ∃ m p' e':Nat,m <= n /\ ov = .slice (some ⟨bo,oo,none⟩) m co /\ rv = .complex .f64 (fl (p':Int)) (fl (e':Int)) /\ p' <= e' /\ e' <= 65535 /\ Hid (0 < m -> e' = E (m - 1)) /\ Hid (lv E size m p' e' = (M,P,Q))) (fun ov _ => lenOf ov)
 case atStart => exact ⟨n,p,e,Nat.le_refl _,rfl,rfl,hp,hme,lH (fun _ => he),HR⟩
 case round =>
   clear HR;obtain ⟨m,p',e',hm,rfl,rfl,hp',hme',HL,HR⟩:=hrel
   by_cases h0:m = 0
   · subst h0;have hr:=HR.out;unfold lv at hr;simp only [Prod.mk.injEq] at hr;obtain ⟨h1,h2,h3⟩:=hr;have H1:=lH h1;have H2:=lH h2;have H3:=lH h3;clear h1 h2 h3 HR;generalize hF1:fl (p':Int) = F1 at *;generalize hF2:fl (e':Int) = F2 at *;go_wp2_with fail;go_ret2;exact ⟨by rw [<- H1.out,<- H2.out,<- H3.out,hF1,hF2]; rfl,rfl⟩
   · obtain ⟨k,hk⟩:∃ k,m = k + 1:=⟨m - 1,by omega⟩
     have t1:decide ((0:Int) < (m:Int)) = true:=decide_eq_true (by omega);have t9:decide (0 < m) = true:=decide_eq_true (by omega);have s9:0 < m:=by omega
     have c1:=from_ret p' e' ⟨hp',by omega⟩;have c3:=to_ret p' e' ⟨hp',by omega⟩;have hr:=HR.out;rw [hk,lv] at hr
     by_cases hpe:p' = e'
     · rw [if_pos hpe] at hr;have t2:((p':Int) == (e':Int)) = true:=by rw [beq_iff_eq]; omega
       have t3:(p' == e') = true:=by rw [beq_iff_eq]; exact hpe
       have e1:(m:Int) - 1 = (k:Int):=by omega
       have i0:(0:Int) <= (k:Int):=by omega
       have i1:(k:Int) <= (co:Int):=by omega
       by_cases hk0:k = 0
       · have t4:decide ((0:Int) < (k:Int)) = false:=decide_eq_false (by omega);have t8:decide (0 < k) = false:=decide_eq_false (by omega);have hes:e' <= size:=by have:=HL.out (by omega); have:=HE0.out (by omega); rw [show m - 1 = 0 by omega] at *; omega
         have c4:=of_yes e' size ⟨hes,by omega⟩;rw [if_pos hk0,hk0] at hr;have HR2:=lH hr;clear HR hr hk;generalize fl (p':Int) = F1 at *;generalize hF2:fl (e':Int) = F2 at *;go_wp2_with fail;refine (c1).calls ?_;go_wp2_with fail;refine (c3).calls ?_;go_wp2_with fail;refine (c3).calls ?_;go_wp2_with fail;refine (c4).calls ?_;go_wp2_with fail
         go_round
         case rel => exact ⟨0,e',size,by omega,rfl,by rw [hF2],hes,hsz,lH (fun h => absurd h (by omega)),HR2⟩
         case measure => simp [lenOf]; omega
       · obtain ⟨j,hj⟩:∃ j,k = j + 1:=⟨k - 1,by omega⟩
         have t4:decide ((0:Int) < (k:Int)) = true:=decide_eq_true (by omega);have t8:decide (0 < k) = true:=decide_eq_true (by omega);have s8:0 < k:=by omega
         have e2:(k:Int) - 1 = (j:Int):=by omega
         have hjn:j < n:=by omega
         have m0:=HO.out j hjn;have m1:=HSP.out j hjn;have hlt:=HON.out j hjn;have hSj:=HE.out j hjn;have hee:e' <= E j:=by
           have h1:=HL.out (by omega);have h2:=HM.out j (by omega);rw [show m - 1 = j + 1 by omega] at h1;omega
         have hEj:E j <= 65535:=by
           have h9:∀ i,i < n -> E i <= size:=by
             intro i
             induction i with
             | zero => exact HE0.out
             | succ i ih => intro hi; exact Nat.le_trans (HM.out i hi) (ih (by omega))
           have:=h9 j hjn;omega
         have c5:=to_ret (B j) (E j) hSj;have c4:=of_yes e' (E j) ⟨hee,by omega⟩;rw [if_neg hk0,show k - 1 = j by omega] at hr;have HR2:=lH hr;have i2:(0:Int) <= (j:Int):=by omega
         have i3:(j:Int) < (k:Int):=by omega
         obtain ⟨oj,hoj⟩:∃ oj,O j = oj:=⟨_,rfl⟩
         obtain ⟨ej,hej⟩:∃ ej,E j = ej:=⟨_,rfl⟩
         rw [hoj] at m0 m1 hlt;rw [hej] at m1 c5 c4 hee hEj HR2;have i4:(0:Int) <= (oj:Int):=by omega
         have i5:(oj:Int) < (N:Int):=by omega
         have HEJ:=lH hej;have HJ:=lH hj;clear HR hr hk hoj hSj hej hj;generalize fl (p':Int) = F1 at *;generalize hF2:fl (e':Int) = F2 at *;generalize hF3:fl (ej:Int) = F3 at *;generalize fl ((B j:Nat):Int) = F4 at *;go_wp2_with fail;refine (c1).calls ?_;go_wp2_with fail;refine (c3).calls ?_;go_wp2_with fail;refine (c5).calls ?_;go_wp2_with fail;refine (c3).calls ?_;go_wp2_with fail;refine (c4).calls ?_;go_wp2_with fail
         go_round
         case rel => exact ⟨k,e',ej,by omega,rfl,by rw [hF2,hF3],hee,hEj,lH (fun _ => by rw [show k - 1 = j by have:=HJ.out; omega]; exact HEJ.out.symm),HR2⟩
         case measure => simp [lenOf]; omega
     · rw [if_neg hpe,<- hk] at hr;simp only [Prod.mk.injEq] at hr;obtain ⟨h1,h2,h3⟩:=hr;have H1:=lH h1;have H2:=lH h2;have H3:=lH h3;clear h1 h2 h3;have t2:((p':Int) == (e':Int)) = false:=by rw [beq_eq_false_iff_ne]; omega
       have t3:(p' == e') = false:=by rw [beq_eq_false_iff_ne]; exact hpe
       clear hpe HR hk;generalize hF1:fl (p':Int) = F1 at *;generalize hF2:fl (e':Int) = F2 at *;go_wp2_with fail;refine (c1).calls ?_;go_wp2_with fail;refine (c3).calls ?_;go_wp2_with fail;go_ret2;exact ⟨by rw [<- H1.out,<- H2.out,<- H3.out,hF1,hF2]; rfl,rfl⟩
end Tlv
namespace Tlv
open Rw
def nc (x:Nd × Value):List Value:=[.int .i64 x.1.c,.int .i64 x.1.t,.bool x.1.b,.string x.1.d,x.2]
def kr (x:Nd × Value):Row:=⟨3,1,x.2,x.1.k.length,x.1.k.map (Value.int .i64)⟩
def addV (ns:List (Nd × Value)) (o:Nat) (ks:List Int) (v:Value):List (Nd × Value):=ns.modify o (fun x => ({ x.1 with k:=x.1.k ++ ks },v))
theorem addV_len (ns:List (Nd × Value)) (o:Nat) (ks:List Int) (v:Value):(addV ns o ks v).length = ns.length:=by unfold addV; simp
theorem addV_fst (ns:List (Nd × Value)) (o:Nat) (ks:List Int) (v:Value):(addV ns o ks v).map Prod.fst = addK (ns.map Prod.fst) o ks:=by
 apply List.ext_getElem?
 intro i;rw [addK_get,List.getElem?_map,List.getElem?_map,addV,List.getElem?_modify];cases ns[i]? with
 | none => rfl
 | some x =>
   show some (Prod.fst (if o = i then _ else _)) = some (if o = i then _ else _)
   by_cases h:o = i
   · rw [if_pos h,if_pos h]
   · rw [if_neg h,if_neg h]
theorem nc_len (x:Nd × Value):(nc x).length = 5:=rfl
theorem flat_nc_len:∀ ns:List (Nd × Value),(ns.flatMap nc).length = ns.length * 5
 | [] => rfl
 | x :: ns => by rw [List.flatMap_cons,List.length_append,nc_len,flat_nc_len ns,List.length_cons]; omega
theorem nc_at:∀ (ns:List (Nd × Value)) (o:Nat) (x:Nd × Value),ns[o]? = some x -> ∀ j v,(nc x)[j]? = some v -> (ns.flatMap nc)[o * 5 + j]? = some v
 | [],o,x,h,_,_,_ => by cases h
 | y :: ns,0,x,h,j,v,hv => by
   cases h;have hj:j < 5:=by have:=(List.getElem?_eq_some_iff.1 hv).1; exact this
   rw [List.flatMap_cons,Nat.zero_mul,Nat.zero_add,List.getElem?_append_left (by rw [nc_len]; exact hj)];exact hv
 | y :: ns,o + 1,x,h,j,v,hv => by
   rw [List.flatMap_cons,List.getElem?_append_right (by rw [nc_len]; omega),nc_len,show (o + 1) * 5 + j - 5 = o * 5 + j by omega];exact nc_at ns o x h j v hv
theorem nc_set:∀ (ns:List (Nd × Value)) (o:Nat) (ks:List Int) (v:Value),o < ns.length -> (ns.flatMap nc).set (o * 5 + 4) v = (addV ns o ks v).flatMap nc
 | [],o,_,_,h => by simp at h
 | y :: ns,0,ks,v,_ => by
   show (nc y ++ ns.flatMap nc).set 4 v = nc ({ y.1 with k:=y.1.k ++ ks },v) ++ ns.flatMap nc
   rw [List.set_append_left _ _ (by rw [nc_len]; omega)];rfl
 | y :: ns,o + 1,ks,v,h => by
   show (nc y ++ ns.flatMap nc).set _ v = nc y ++ (addV ns o ks v).flatMap nc
   rw [List.set_append_right _ _ (by rw [nc_len]; omega),nc_len,show (o + 1) * 5 + 4 - 5 = o * 5 + 4 by omega,nc_set ns o ks v (by simpa using h)]
theorem kr_split (ns:List (Nd × Value)) (o:Nat) (x:Nd × Value) (h:ns[o]? = some x):ns.map kr = (ns.take o).map kr ++ kr x :: (ns.drop (o + 1)).map kr:=by
 obtain ⟨h1,h2⟩:=List.getElem?_eq_some_iff.1 h;have h3:ns = ns.take o ++ x :: ns.drop (o + 1):=by
   rw [<- h2,<- List.drop_eq_getElem_cons h1,List.take_append_drop]
 conv => lhs; rw [h3]
 rw [List.map_append,List.map_cons]
theorem kr_add (ns:List (Nd × Value)) (o:Nat) (x:Nd × Value) (h:ns[o]? = some x) (ks:List Int) (v:Value):(addV ns o ks v).map kr = (ns.take o).map kr ++ ⟨3,1,v,x.1.k.length + ks.length,x.1.k.map (Value.int .i64) ++ ks.map (Value.int .i64)⟩ :: (ns.drop (o + 1)).map kr:=by
 obtain ⟨h1,h2⟩:=List.getElem?_eq_some_iff.1 h;have h4:(addV ns o ks v)[o]? = some ({ x.1 with k:=x.1.k ++ ks },v):=by
   unfold addV;rw [List.getElem?_modify,h]
   show some (if o = o then _ else _) = _
   rw [if_pos rfl]
 rw [kr_split _ o _ h4]
 congr 1
 · unfold addV;rw [List.take_modify]
   congr 1
   apply List.ext_getElem?
   intro i;rw [List.getElem?_modify]
   by_cases hi:i < o
   · cases (ns.take o)[i]? with
     | none => rfl
     | some y => show some (if o = i then _ else y) = some y; rw [if_neg (by omega)]
   · rw [List.getElem?_eq_none (by simp; omega)]; rfl
 · congr 1
   · unfold kr;simp
   · unfold addV
     congr 1
     apply List.ext_getElem?
     intro i;rw [List.getElem?_drop,List.getElem?_drop,List.getElem?_modify];cases ns[o + 1 + i]? with
     | none => rfl
     | some y => show some (if o = o + 1 + i then _ else y) = some y; rw [if_neg (by omega)]
def WRows (tv sv ov:Value) (ns:List (Nd × Value)) (sp:List (Nat × Nat)) (op:List Nat):List Row :=
 ⟨87,5,tv,ns.length,ns.flatMap nc⟩ :: ⟨111,1,sv,sp.length,sp.map (fun p => .complex .f64 (Flt.fl (p.1:Int)) (Flt.fl (p.2:Int)))⟩ :: ⟨3,1,ov,op.length,op.map (fun i:Nat => Value.int .i64 (i:Int))⟩ :: ns.map kr
theorem own_cells {w:World} {base:Nat} {e:TypeId} {k:Nat} {g n c:Nat} {xs:List Value} (h:w.ownsRow base e k (.slice (some ⟨g,0,none⟩) n c) n xs):base <= g /\ g < w.heap.size /\ ∀ i v,xs[i]? = some v -> w.cell? ⟨g,i,none⟩ = some v /\ w.frozen? ⟨g,i,none⟩ = false:=by
 rcases h.2 with ⟨h0,_⟩ | ⟨g',cap,cur,hv,hb,hg,hc,hm,hs,ht⟩
 · cases h0
 · cases hv;refine ⟨hb,(Array.getElem?_eq_some_iff.1 hg).1,fun i v hv => ⟨?_, ?_⟩⟩
   · rw [<- ht,List.getElem?_take] at hv
     split at hv
     · unfold World.cell?;rw [hg]
       simpa using hv
     · cases hv
   · unfold World.frozen?;rw [hg];simp
theorem own_form {w:World} {base:Nat} {e:TypeId} {k n:Nat} {v:Value} {xs:List Value} (h:w.ownsRow base e k v n xs) (hn:0 < n):∃ g c,v = .slice (some ⟨g,0,none⟩) n c /\ n <= c /\ c <= maxLen:=by
 rcases h.2 with ⟨_,h0⟩ | ⟨g',cap,cur,hv,hb,hg,hc,hm,hs,ht⟩
 · omega
 · exact ⟨g',cap,hv,hc,hm⟩
theorem WRows.grow (tv sv ov:Value) (ns:List (Nd × Value)) (sp:List (Nat × Nat)) (op:List Nat) (x:Nd) (hk:x.k = []):WRows tv sv ov (ns ++ [(x,.slice none 0 0)]) sp op =
   ⟨87,5,tv,ns.length + 1,ns.flatMap nc ++ nc (x,.slice none 0 0)⟩ :: ⟨111,1,sv,sp.length,sp.map (fun p => .complex .f64 (Flt.fl (p.1:Int)) (Flt.fl (p.2:Int)))⟩ :: ⟨3,1,ov,op.length,op.map (fun i:Nat => Value.int .i64 (i:Int))⟩ :: (ns.map kr ++ [⟨3,1,.slice none 0 0,0,[]⟩]):=by
 unfold WRows;rw [List.length_append,List.flatMap_append,List.map_append]
 show _ :: _ :: _ :: (ns.map kr ++ [kr (x,.slice none 0 0)]) = _
 unfold kr;rw [hk];simp
end Tlv
namespace Tlv
open Span Flt Rw
def datB (s:ByteArray) (p k:Nat) (hh:Head.Hd):ByteArray:=if hh.b then ⟨#[]⟩ else s.extract (p + k) (p + k + hh.n)
theorem look_dec (s:ByteArray) (p e deep cnt:Nat) (hh:Head.Hd) (k x:Nat) (hq:Head.dec (s.extract p e).data.toList = (hh,k,x)):look Strs.rightB s p e deep cnt =
   if x ≠ 0 then .error x else if e - p < k + hh.n then .error 5 else if judE hh.c hh.t hh.b (datB s p k hh) deep cnt = 0 then .ok (hh,k) else .error (judE hh.c hh.t hh.b (datB s p k hh) deep cnt).toNat:=by
 unfold look;rw [hq];dsimp only
 by_cases hx:x ≠ 0
 · rw [if_pos hx,if_pos hx]
 rw [if_neg hx,if_neg hx]
 by_cases hf:e - p < k + hh.n
 · rw [if_pos hf,if_pos hf]
 rw [if_neg hf,if_neg hf];unfold judE
 by_cases h1:16 < deep
 · rw [if_pos h1,if_pos (show (16:Int) < (deep:Int) by omega),if_neg (by decide)]; rfl
 rw [if_neg h1,if_neg (show ¬ (16:Int) < (deep:Int) by omega)]
 by_cases h2:1000 <= cnt
 · rw [if_pos h2,if_pos (show (1000:Int) <= (cnt:Int) by omega),if_neg (by decide)]; rfl
 rw [if_neg h2,if_neg (show ¬ (1000:Int) <= (cnt:Int) by omega)];unfold formB datB
 by_cases h3:hh.c = 0
 · have h3':¬ ((hh.c:Int) ≠ 0):=by omega
   rw [if_neg h3',h3];cases hb:hh.b with
   | true =>
     simp only [ne_eq,not_true_eq_false,decide_false,Bool.false_or,if_true]
     by_cases h4:hh.t = 16
     · rw [h4]; rfl
     · by_cases h5:hh.t = 17
       · rw [h5]; rfl
       · have e1:¬ (((hh.t:Nat):Int) = 16 ∨ ((hh.t:Nat):Int) = 17):=by omega
         rw [if_neg e1];simp [h4,h5]
   | false =>
     simp only [ne_eq,not_true_eq_false,decide_false,Bool.false_or];cases hr:Strs.rightB (hh.t:Int) (s.extract (p + k) (p + k + hh.n)) with
     | true => simp [hr]
     | false => simp [hr]
 · have h3':(hh.c:Int) ≠ 0:=by omega
   rw [if_pos h3',if_pos rfl];simp [h3]
theorem results_tt_cell {P:Program} {fn:Func} {p u x:Tmp} {ty:TypeId} (h:fn.results = #[.tmp u,.tmp x,.cell p ty]) (tmps:Array Value) (w:World) (g:Nat) (t:TypeId) (cs:Array Value) (fr:Nat × Nat) (d:TypeDesc) (v z:Value)
   (hp:tmps.getD p undef = .pointer (some ⟨g,0,none⟩)) (hv:tmps.getD u undef = v) (hz:tmps.getD x undef = z) (hg:w.heap[g]? = some (.cells cs t fr))
   (hu:P.underlying ty = some d) (hd:(match d with | .struct _ | .array _ _ => true | _ => false) = true) (hi:(P.info? ty).map (·.size) = some cs.size) :
   (results fn tmps).run P w = .ok (.tuple #[v,z,.agg cs]) w:=by
 subst hv hz;have hp':tmps[p]?.getD undef = .pointer (some ⟨g,0,none⟩):=by simpa using hp
 simp [results,h,hp',asAddr,run_loadVar_row w g t ty cs fr d hg hu hd hi]
end Tlv
end Go.Proofs.YtpanhhjkecebkaaGreat
namespace Go.Proofs.YtpanhhjkecebkaaGreat
namespace Tlv
def En (sp:List (Nat × Nat)) (op:List Nat) (i:Nat):Nat:=(sp.getD (op.getD i 0) (0,0)).2
def ends (sp:List (Nat × Nat)) (op:List Nat):List Nat:=op.reverse.map (fun o => (sp.getD o (0,0)).2)
theorem ends_len (sp:List (Nat × Nat)) (op:List Nat):(ends sp op).length = op.length:=by unfold ends; simp
theorem take_rev (op:List Nat) (m:Nat) (h:m < op.length):(op.take (m + 1)).reverse = op.getD m 0 :: (op.take m).reverse:=by
 rw [List.take_succ_eq_append_getElem h,List.reverse_append];simp [List.getD,h]
theorem ends_take (sp:List (Nat × Nat)) (op:List Nat) (m:Nat) (h:m < op.length):ends sp (op.take (m + 1)) = En sp op m :: ends sp (op.take m):=by
 unfold ends;rw [take_rev op m h];rfl
structure Mid (s:ByteArray) (N:List Nd) (sp:List (Nat × Nat)) (op:List Nat) (p e:Nat):Prop where
 good:Good Strs.rightB s (top Strs.rightB s) N sp op.reverse (ends sp op) p
 len:sp.length = N.length
 occ:∀ o ∈ op,o < N.length
 spn:∀ q ∈ sp,q.1 <= q.2 /\ q.2 <= s.size
 mono:∀ i,i + 1 < op.length -> En sp op (i + 1) <= En sp op i
 e0:0 < op.length -> En sp op 0 <= s.size
 pe:p <= e
 es:e <= s.size
 en:0 < op.length -> e = En sp op (op.length - 1)
theorem en_take (sp:List (Nat × Nat)) (op:List Nat) (M i:Nat) (h:i < M):En sp (op.take M) i = En sp op i:=by
 unfold En;simp [List.getD,h]
theorem lv_good {R:Int -> ByteArray -> Bool} {s:ByteArray} {tgt:Except (Nat × Nat) F} {N:List Nd} {sp:List (Nat × Nat)} {op:List Nat} (hm:∀ i,i + 1 < op.length -> En sp op (i + 1) <= En sp op i) (h0:0 < op.length -> En sp op 0 <= s.size) :
   ∀ (m p e M P Q:Nat),m <= op.length -> p <= e -> e <= s.size -> (0 < m -> e = En sp op (m - 1)) -> Good R s tgt N sp (op.take m).reverse (ends sp (op.take m)) p -> lv (En sp op) s.size m p e = (M,P,Q) ->
     M <= m /\ P <= Q /\ Q <= s.size /\ (0 < M -> Q = En sp op (M - 1) /\ P < Q) /\ Good R s tgt N sp (op.take M).reverse (ends sp (op.take M)) P:=by
 intro m
 induction m with
 | zero =>
   intro p e M P Q _ hpe hes _ hg hl;unfold lv at hl;cases hl;exact ⟨Nat.le_refl _,hpe,hes,fun h => absurd h (by omega),hg⟩
 | succ m ih =>
   intro p e M P Q hml hpe hes he hg hl;have hee:=he (by omega);rw [Nat.add_sub_cancel] at hee;unfold lv at hl
   by_cases hp:p = e
   · rw [if_pos hp] at hl;rw [take_rev op m (by omega),ends_take sp op m (by omega)] at hg;subst hp;rw [<- hee] at hg;have hg2:=good_leave hg
     by_cases hm0:m = 0
     · rw [if_pos hm0] at hl;obtain ⟨a1,a2⟩:=ih p s.size M P Q (by omega) (by omega) (Nat.le_refl _) (fun h => absurd hm0 (by omega)) hg2 hl;exact ⟨by omega,a2⟩
     · rw [if_neg hm0] at hl;have h1:=hm (m - 1) (by omega);rw [show m - 1 + 1 = m by omega] at h1;have h9:∀ i,i < op.length -> En sp op i <= s.size:=by
         intro i
         induction i with
         | zero => exact h0
         | succ i ih2 => intro hi; exact Nat.le_trans (hm i hi) (ih2 (by omega))
       obtain ⟨a1,a2⟩:=ih p (En sp op (m - 1)) M P Q (by omega) (by omega) (h9 _ (by omega)) (fun _ => rfl) hg2 hl;exact ⟨by omega,a2⟩
   · rw [if_neg hp] at hl;cases hl;exact ⟨Nat.le_refl _,hpe,hes,fun _ => ⟨by rw [Nat.add_sub_cancel]; exact hee,by omega⟩,hg⟩
theorem mid_leave {s:ByteArray} {N:List Nd} {sp:List (Nat × Nat)} {op:List Nat} {p e:Nat} (h:Mid s N sp op p e) {M P Q:Nat} (hl:lv (En sp op) s.size op.length p e = (M,P,Q)):M <= op.length /\ Mid s N sp (op.take M) P Q /\ (0 < M -> P < Q):=by
 obtain ⟨a1,a2,a3,a4,a5⟩:=lv_good h.mono h.e0 op.length p e M P Q (Nat.le_refl _) h.pe h.es h.en (by rw [List.take_length]; exact h.good) hl;have hlen:(op.take M).length = M:=by rw [List.length_take]; omega
 refine ⟨a1,⟨a5,h.len,fun o ho => h.occ o (List.mem_of_mem_take ho),h.spn,fun i hi => ?_,fun hi => ?_,a2,a3,fun hi => ?_⟩,fun hM => (a4 hM).2⟩
 · rw [hlen] at hi;rw [en_take sp op M _ hi,en_take sp op M _ (by omega)];exact h.mono i (by omega)
 · rw [hlen] at hi;rw [en_take sp op M _ hi];exact h.e0 (by omega)
 · rw [hlen] at hi ⊢;rw [en_take sp op M _ (by omega)];exact (a4 hi).1
theorem en_grow (sp:List (Nat × Nat)) (op:List Nat) (q:Nat × Nat) (h:∀ o ∈ op,o < sp.length) (i:Nat) (hi:i < op.length):En (sp ++ [q]) op i = En sp op i:=by
 unfold En;have h1:op.getD i 0 ∈ op:=by simp [List.getD,hi]
 have h2:=h _ h1;generalize op.getD i 0 = o at h2 ⊢;rw [List.getD,List.getD,List.getElem?_append_left h2]
theorem ends_grow (sp:List (Nat × Nat)) (op:List Nat) (q:Nat × Nat) (h:∀ o ∈ op,o < sp.length):ends (sp ++ [q]) op = ends sp op:=by
 unfold ends
 apply List.map_congr_left
 intro o ho;have h2:=h o (List.mem_reverse.1 ho);rw [List.getD,List.getD,List.getElem?_append_left h2]
theorem op_last (op:List Nat) (h:0 < op.length):op.reverse = op.getD (op.length - 1) 0 :: (op.take (op.length - 1)).reverse:=by
 have h1:=take_rev op (op.length - 1) (by omega);rw [show op.length - 1 + 1 = op.length by omega,List.take_length] at h1;exact h1
theorem ends_last (sp:List (Nat × Nat)) (op:List Nat) (h:0 < op.length):ends sp op = En sp op (op.length - 1) :: ends sp (op.take (op.length - 1)):=by
 have h1:=ends_take sp op (op.length - 1) (by omega);rw [show op.length - 1 + 1 = op.length by omega,List.take_length] at h1;exact h1
theorem mid_look {s:ByteArray} {N:List Nd} {sp:List (Nat × Nat)} {op:List Nat} {p e:Nat} (h:Mid s N sp op p e) (ho:0 < op.length):Good Strs.rightB s (top Strs.rightB s) N sp (op.getD (op.length - 1) 0 :: (op.take (op.length - 1)).reverse) (e :: ends sp (op.take (op.length - 1))) p /\ (ends sp (op.take (op.length - 1))).length + 2 = op.length + 1 /\ op.getD (op.length - 1) 0 < N.length:=by
 have hg:=h.good;rw [op_last op ho,ends_last sp op ho,<- h.en ho] at hg;refine ⟨hg, ?_, ?_⟩
 · rw [ends_len,List.length_take]; omega
 · exact h.occ _ (by simp [List.getD,show op.length - 1 < op.length by omega])
theorem mid_err {s:ByteArray} {N:List Nd} {sp:List (Nat × Nat)} {op:List Nat} {p e:Nat} (h:Mid s N sp op p e) (ho:0 < op.length) (hp:p < e) (c:Nat) (hl:look Strs.rightB s p e (op.length + 1) N.length = .error c):top Strs.rightB s = .error (c,p):=by
 obtain ⟨h1,h2,_⟩:=mid_look h ho;exact good_err h1 hp c (by rw [h2]; exact hl)
theorem mid_prim {s:ByteArray} {N:List Nd} {sp:List (Nat × Nat)} {op:List Nat} {p e:Nat} (h:Mid s N sp op p e) (ho:0 < op.length) (hp:p < e) (hd:Head.Hd) (k:Nat) (hl:look Strs.rightB s p e (op.length + 1) N.length = .ok (hd,k)) (hb:hd.b = false) :
   Mid s (addK N (op.getD (op.length - 1) 0) [(N.length:Int)] ++ [⟨hd.c,hd.t,false,s.extract (p + k) (p + k + hd.n),[]⟩]) (sp ++ [(p,p + k + hd.n)]) op (p + k + hd.n) e:=by
 obtain ⟨h1,h2,h3⟩:=mid_look h ho;have lk:=look_ok hl;have l1:=lk.fit;have he:=h.es;have hoc:∀ o ∈ op,o < sp.length:=fun o h9 => by rw [h.len]; exact h.occ o h9
 have hlen:(addK N (op.getD (op.length - 1) 0) [(N.length:Int)] ++ [(⟨hd.c,hd.t,false,s.extract (p + k) (p + k + hd.n),[]⟩:Nd)]).length = N.length + 1:=by rw [List.length_append,addK_len]; rfl
 have hg:=good_prim h1 hp he h3 hd k (by rw [h2]; exact hl) hb;refine ⟨?_, ?_, ?_, ?_,fun i hi => ?_,fun hi => ?_,by omega,he,fun hi => ?_⟩
 · rw [op_last op ho,ends_last (sp ++ [(p,p + k + hd.n)]) op ho,en_grow sp op _ hoc _ (by omega),<- h.en ho,ends_grow sp (op.take (op.length - 1)) _ (fun o h9 => hoc o (List.mem_of_mem_take h9))];exact hg
 · rw [hlen,List.length_append,h.len]; rfl
 · intro o h9; rw [hlen]; have:=h.occ o h9; omega
 · intro q hq;rcases List.mem_append.1 hq with hq | hq
   · exact h.spn q hq
   · rw [List.mem_singleton.1 hq]
     show p <= p + k + hd.n /\ p + k + hd.n <= s.size
     omega
 · rw [en_grow sp op _ hoc _ hi,en_grow sp op _ hoc _ (by omega)]; exact h.mono i hi
 · rw [en_grow sp op _ hoc _ hi]; exact h.e0 hi
 · rw [en_grow sp op _ hoc _ (by omega)]; exact h.en hi
theorem mid_cons {s:ByteArray} {N:List Nd} {sp:List (Nat × Nat)} {op:List Nat} {p e:Nat} (h:Mid s N sp op p e) (ho:0 < op.length) (hp:p < e) (hd:Head.Hd) (k:Nat) (hl:look Strs.rightB s p e (op.length + 1) N.length = .ok (hd,k)) (hb:hd.b = true) :
   Mid s (addK N (op.getD (op.length - 1) 0) [(N.length:Int)] ++ [⟨hd.c,hd.t,true,⟨#[]⟩,[]⟩]) (sp ++ [(p,p + k + hd.n)]) (op ++ [N.length]) (p + k) (p + k + hd.n):=by
 obtain ⟨h1,h2,h3⟩:=mid_look h ho;have lk:=look_ok hl;have l1:=lk.fit;have he:=h.es;have hoc:∀ o ∈ op,o < sp.length:=fun o h9 => by rw [h.len]; exact h.occ o h9
 have hlen:(addK N (op.getD (op.length - 1) 0) [(N.length:Int)] ++ [(⟨hd.c,hd.t,true,⟨#[]⟩,[]⟩:Nd)]).length = N.length + 1:=by rw [List.length_append,addK_len]; rfl
 have hg:=good_cons h1 hp he h3 hd k (by rw [h2]; exact hl) hb;have hol:(op ++ [N.length]).length = op.length + 1:=by simp
 have hE:∀ i,i < op.length -> En (sp ++ [(p,p + k + hd.n)]) (op ++ [N.length]) i = En sp op i:=by
   intro i hi;rw [<- en_grow sp op (p,p + k + hd.n) hoc i hi];unfold En;rw [List.getD,List.getD,List.getD,List.getD,List.getElem?_append_left hi]
 have hEl:En (sp ++ [(p,p + k + hd.n)]) (op ++ [N.length]) op.length = p + k + hd.n:=by
   unfold En;have e1:(op ++ [N.length]).getD op.length 0 = N.length:=by simp [List.getD]
   rw [e1,<- h.len];simp [List.getD]
 refine ⟨?_, ?_, ?_, ?_,fun i hi => ?_,fun hi => ?_,by omega,by omega,fun hi => ?_⟩
 · have e1:(op ++ [N.length]).reverse = N.length :: op.reverse:=by simp
   have e2:ends (sp ++ [(p,p + k + hd.n)]) (op ++ [N.length]) = (p + k + hd.n) :: ends sp op:=by
     have h9:=ends_last (sp ++ [(p,p + k + hd.n)]) (op ++ [N.length]) (by omega);rw [hol,Nat.add_sub_cancel,hEl,List.take_left' rfl,ends_grow sp op _ hoc] at h9;exact h9
   rw [e1,e2,op_last op ho,ends_last sp op ho,<- h.en ho];exact hg
 · rw [hlen,List.length_append,h.len]; rfl
 · intro o h9;rw [hlen];rcases List.mem_append.1 h9 with h9 | h9
   · have:=h.occ o h9; omega
   · rw [List.mem_singleton.1 h9]; omega
 · intro q hq;rcases List.mem_append.1 hq with hq | hq
   · exact h.spn q hq
   · rw [List.mem_singleton.1 hq]
     show p <= p + k + hd.n /\ p + k + hd.n <= s.size
     omega
 · rw [hol] at hi
   by_cases hi2:i + 1 < op.length
   · rw [hE _ hi2,hE _ (by omega)]; exact h.mono i hi2
   · have:i + 1 = op.length:=by omega
     rw [this,hEl,hE _ (by omega),show i = op.length - 1 by omega,<- h.en ho];omega
 · rw [hE 0 ho]; exact h.e0 ho
 · rw [hol,Nat.add_sub_cancel,hEl]
theorem mid_first_prim {s:ByteArray} (h0:0 < s.size) (h1:s.size <= 65535) (hd:Head.Hd) (k:Nat) (hl:look Strs.rightB s 0 s.size 1 0 = .ok (hd,k)) (hb:hd.b = false) :
   Mid s [⟨hd.c,hd.t,false,s.extract (0 + k) (0 + k + hd.n),[]⟩] [(0,0 + k + hd.n)] [] (0 + k + hd.n) s.size:=by
 have lk:=look_ok hl;have l1:=lk.fit;refine ⟨top_prim h0 h1 hd k hl hb,rfl,by simp, ?_,fun i hi => by simp at hi,fun hi => by simp at hi,by omega,Nat.le_refl _,fun hi => by simp at hi⟩;intro q hq;rw [List.mem_singleton.1 hq]
 show 0 <= 0 + k + hd.n /\ 0 + k + hd.n <= s.size
 omega
theorem mid_first_cons {s:ByteArray} (h0:0 < s.size) (h1:s.size <= 65535) (hd:Head.Hd) (k:Nat) (hl:look Strs.rightB s 0 s.size 1 0 = .ok (hd,k)) (hb:hd.b = true) :
   Mid s [⟨hd.c,hd.t,true,⟨#[]⟩,[]⟩] [(0,0 + k + hd.n)] [0] (0 + k) (0 + k + hd.n):=by
 have lk:=look_ok hl;have l1:=lk.fit;refine ⟨top_cons h0 h1 hd k hl hb,rfl,by simp, ?_,fun i hi => by simp at hi,fun hi => ?_,by omega,by omega,fun hi => rfl⟩
 · intro q hq;rw [List.mem_singleton.1 hq]
   show 0 <= 0 + k + hd.n /\ 0 + k + hd.n <= s.size
   omega
 · show 0 + k + hd.n <= s.size
   omega
end Tlv
end Go.Proofs.YtpanhhjkecebkaaGreat
namespace Go.Proofs.YtpanhhjkecebkaaGreat
open Go.RowKit
namespace Tlv
open Span Flt Rw
def F2 (c p:Int):Array Value:=#[.int .i64 c,.int .i64 p]
theorem f2_info (c p:Int):(Tryz.prog.info? 65).map (·.size) = some (F2 c p).size:=by kernel_rfl
theorem f2_one (c p:Int):(F2 c p).all (·.oneCell') = true:=by
 rw [Array.all_eq_true];intro k hk
 match k,hk with
 | 0,_ | 1,_ => rfl
theorem ne_nil (s:ByteArray) (h:0 < s.size):(s.toList == []) = false:=by
 rw [beq_eq_false_iff_ne];intro hh;rw [ByteArray.toList_eq] at hh;have h3:s.data.toList.length = s.size:=rfl;rw [hh] at h3;have h4:([]:List UInt8).length = 0:=rfl;omega
def fltV (c p:Int):Value:=.tuple #[.slice none 0 0,.slice none 0 0,.agg (F2 c p)]
set_option maxHeartbeats 4000000 in
theorem walk_empty:Mak 106 #[.string ⟨#[]⟩] (fltV 3 0):=by
 intro w;have hr0:Hid (HR w w.heap.size (F2 0 0) 65 (w.alloc (.cells (F2 0 0) 65))):=lH ⟨heap_alloc_new w _⟩;have HS:Hid (Since w (w.alloc (.cells (F2 0 0) 65))):=lH ((Since.refl w).alloc _);unfold F2 at hr0 HS
 go_enter Tryz.func106,Tryz.ntmps106
 go_wp2_with fail;refine wp_scope_jumps 0 (fun _ _ => False) (fun _ _ => 0) rfl ?_ (fun _ _ h => h.elim);go_wp2_with (refine wpList_store_row rfl 65 _ _ rfl w.heap.size (F2 3 0) (by rfl) (by rfl) _ _ hr0.out.row (f2_info 3 0) rfl (f2_one 3 0) ?_)
 simp only [Exit.jump];exact bodyPost_ret (v:=fltV 3 0) (results_tt_cell Tryz.results106 _ _ _ _ _ _ _ _ _ rfl rfl rfl (setRow_heap _ _ _ _ _ _ hr0.out.row) Tryz.underlying65 rfl (f2_info 3 0)) rfl ⟨rfl,below_setRow HS.out (Nat.le_refl _) _⟩
set_option maxHeartbeats 4000000 in
theorem walk_long (s:ByteArray) (h:65535 < s.size) (_hm:s.size <= maxLen):Mak 106 #[.string s] (fltV 4 0):=by
 have e1:=ne_nil s (by omega);have h1:decide ((65535:Int) < (s.size:Int)) = true:=decide_eq_true (by omega);clear h;intro w;have hr0:Hid (HR w w.heap.size (F2 0 0) 65 (w.alloc (.cells (F2 0 0) 65))):=lH ⟨heap_alloc_new w _⟩;have HS:Hid (Since w (w.alloc (.cells (F2 0 0) 65))):=lH ((Since.refl w).alloc _);unfold F2 at hr0 HS
 go_enter Tryz.func106,Tryz.ntmps106
 go_wp2_with fail;refine wp_scope_jumps 0 (fun _ _ => False) (fun _ _ => 0) rfl ?_ (fun _ _ h => h.elim);go_wp2_with (refine wpList_store_row rfl 65 _ _ rfl w.heap.size (F2 4 0) (by rfl) (by rfl) _ _ hr0.out.row (f2_info 4 0) rfl (f2_one 4 0) ?_)
 simp only [Exit.jump];exact bodyPost_ret (v:=fltV 4 0) (results_tt_cell Tryz.results106 _ _ _ _ _ _ _ _ _ rfl rfl rfl (setRow_heap _ _ _ _ _ _ hr0.out.row) Tryz.underlying65 rfl (f2_info 4 0)) rfl ⟨rfl,below_setRow HS.out (Nat.le_refl _) _⟩
set_option maxHeartbeats 8000000 in
theorem walk_e0 (s:ByteArray) (h0:0 < s.size) (h:s.size <= 65535) (A B:Nat) (x:Int) (hx:(x != 0) = true) (c0:Ret 82 #[.int .i64 0,.int .i64 (s.size:Int)] (.complex .f64 A B)) (c1:Mak 85 #[.string s,.complex .f64 A B] (.tuple #[.agg Z4,.complex .f64 0 0,.int .i64 x]))
   (c2:Ret 83 #[.complex .f64 A B] (.int .i64 0)):Mak 106 #[.string s] (fltV x 0):=by
 have e1:=ne_nil s (by omega);have h1:decide ((65535:Int) < (s.size:Int)) = false:=decide_eq_false (by omega);clear h h0;intro w;have hr0:Hid (HR w w.heap.size (F2 0 0) 65 (w.alloc (.cells (F2 0 0) 65))):=lH ⟨heap_alloc_new w _⟩;have HS:Hid (Since w (w.alloc (.cells (F2 0 0) 65))):=lH ((Since.refl w).alloc _);unfold F2 at hr0 HS
 go_enter Tryz.func106,Tryz.ntmps106
 go_wp2_with fail;refine wp_scope_jumps 0 (fun _ _ => False) (fun _ _ => 0) rfl ?_ (fun _ _ h => h.elim);go_wp2_with fail;refine c0.calls ?_;go_wp2_with fail
 go_step3
 go_wp2_with fail;refine c1.calls0 ?_;intro w1 h9;have hr1:=lH (hr_old (hr0.out.step h9) (.cells Z4 115));replace HS:=lH ((HS.out.step h9).alloc (.cells Z4 115));clear h9 hr0;have hr0:=hr1;clear hr1;unfold Z4 at hr0 HS ⊢;go_wp2_with fail;refine c2.calls ?_;go_wp2_with (refine wpList_store_row rfl 65 _ _ rfl w.heap.size (F2 x 0) (by rfl) (by rfl) _ _ hr0.out.row (f2_info x 0) rfl (f2_one x 0) ?_)
 simp only [Exit.jump];exact bodyPost_ret (v:=fltV x 0) (results_tt_cell Tryz.results106 _ _ _ _ _ _ _ _ _ rfl rfl rfl (setRow_heap _ _ _ _ _ _ hr0.out.row) Tryz.underlying65 rfl (f2_info x 0)) rfl ⟨rfl,below_setRow HS.out (Nat.le_refl _) _⟩
set_option maxHeartbeats 8000000 in
theorem walk_e1p (s d:ByteArray) (h0:0 < s.size) (h:s.size <= 65535) (A B M C X1 X2:Nat) (c t n T K E:Int) (hE:(E != 0) = true) (c0:Ret 82 #[.int .i64 0,.int .i64 (s.size:Int)] (.complex .f64 A B))
   (c1:Mak 85 #[.string s,.complex .f64 A B] (.tuple #[.agg (H4 c t false n),.complex .f64 X1 X2,.int .i64 0])) (c2:Ret 83 #[.complex .f64 A B] (.int .i64 0)) (c3:Ret 87 #[.complex .f64 X1 X2] (.int .i64 T))
   (c4:Ret 86 #[.complex .f64 A B,.int .i64 T] (.tuple #[.complex .f64 A M,.complex .f64 M B])) (v1:∀ w,(convert 155 3 (.float .f64 X1)).run Tryz.prog w = .ok (.int .i64 K) w)
   (c5:Ret 86 #[.complex .f64 A M,.int .i64 K] (.tuple #[.complex .f64 A C,.complex .f64 C M])) (c6:Ret 88 #[.string s,.complex .f64 C M] (.string d))
   (c7:Mak 136 #[.agg #[.int .i64 c,.int .i64 t,.bool false,.string d,.slice none 0 0],.int .i64 1,.int .i64 0] (.int .i64 E)):Mak 106 #[.string s] (fltV E 0):=by
 have e1:=ne_nil s (by omega);have h1:decide ((65535:Int) < (s.size:Int)) = false:=decide_eq_false (by omega);clear h h0;intro w;have hr0:Hid (HR w w.heap.size (F2 0 0) 65 (w.alloc (.cells (F2 0 0) 65))):=lH ⟨heap_alloc_new w _⟩;have HS:Hid (Since w (w.alloc (.cells (F2 0 0) 65))):=lH ((Since.refl w).alloc _);unfold F2 at hr0 HS
 go_enter Tryz.func106,Tryz.ntmps106
 go_wp2_with fail;refine wp_scope_jumps 0 (fun _ _ => False) (fun _ _ => 0) rfl ?_ (fun _ _ h => h.elim);go_wp2_with fail;refine c0.calls ?_;go_wp2_with fail
 go_step3
 go_wp2_with fail;refine c1.calls0 ?_;intro w1 h9;have hr1:=lH (hr_old (hr0.out.step h9) (.cells (H4 c t false n) 115));replace HS:=lH ((HS.out.step h9).alloc (.cells (H4 c t false n) 115));have hr2:=lH (hr_old hr1.out (.cells #[.int .i64 c,.int .i64 t,.bool false,.string d,.slice none 0 0] 87));have HS2:=lH (HS.out.alloc (.cells #[.int .i64 c,.int .i64 t,.bool false,.string d,.slice none 0 0] 87));have hp:=lH (hb_new w1 KT trivial (H4 c t false n) 115);unfold H4 at hr1 hr2 HS HS2 hp ⊢;obtain ⟨_,m0,m1,m2,m3⟩:=hb4 hp;clear h9 hr0;go_wp2_with fail;refine c3.calls ?_;go_wp2_with fail;refine c4.calls ?_;go_wp2_with fail;refine c5.calls ?_;go_wp2_with fail;refine c6.calls ?_;go_wp2_with fail;refine c7.calls0 ?_;intro w5 h5;replace hr2:=lH (hr2.out.step h5);replace HS2:=lH (HS2.out.step h5);clear h5 hr1 HS;have hr0:=hr2;have HS:=HS2;clear hr2 HS2;go_wp2_with fail;refine c2.calls ?_;go_wp2_with (refine wpList_store_row rfl 65 _ _ rfl w.heap.size (F2 E 0) (by rfl) (by rfl) _ _ hr0.out.row (f2_info E 0) rfl (f2_one E 0) ?_)
 simp only [Exit.jump];exact bodyPost_ret (v:=fltV E 0) (results_tt_cell Tryz.results106 _ _ _ _ _ _ _ _ _ rfl rfl rfl (setRow_heap _ _ _ _ _ _ hr0.out.row) Tryz.underlying65 rfl (f2_info E 0)) rfl ⟨rfl,below_setRow HS.out (Nat.le_refl _) _⟩
set_option maxHeartbeats 8000000 in
theorem walk_e1c (s d:ByteArray) (h0:0 < s.size) (h:s.size <= 65535) (A B M C X1 X2:Nat) (c t n T K E:Int) (hE:(E != 0) = true) (c0:Ret 82 #[.int .i64 0,.int .i64 (s.size:Int)] (.complex .f64 A B))
   (c1:Mak 85 #[.string s,.complex .f64 A B] (.tuple #[.agg (H4 c t true n),.complex .f64 X1 X2,.int .i64 0])) (c2:Ret 83 #[.complex .f64 A B] (.int .i64 0)) (c3:Ret 87 #[.complex .f64 X1 X2] (.int .i64 T))
   (c4:Ret 86 #[.complex .f64 A B,.int .i64 T] (.tuple #[.complex .f64 A M,.complex .f64 M B])) (v1:∀ w,(convert 155 3 (.float .f64 X1)).run Tryz.prog w = .ok (.int .i64 K) w)
   (c5:Ret 86 #[.complex .f64 A M,.int .i64 K] (.tuple #[.complex .f64 A C,.complex .f64 C M])) (_c6:Ret 88 #[.string s,.complex .f64 C M] (.string d))
   (c7:Mak 136 #[.agg #[.int .i64 c,.int .i64 t,.bool true,.string ⟨#[]⟩,.slice none 0 0],.int .i64 1,.int .i64 0] (.int .i64 E)):Mak 106 #[.string s] (fltV E 0):=by
 have e1:=ne_nil s (by omega);have h1:decide ((65535:Int) < (s.size:Int)) = false:=decide_eq_false (by omega);clear h h0;intro w;have hr0:Hid (HR w w.heap.size (F2 0 0) 65 (w.alloc (.cells (F2 0 0) 65))):=lH ⟨heap_alloc_new w _⟩;have HS:Hid (Since w (w.alloc (.cells (F2 0 0) 65))):=lH ((Since.refl w).alloc _);unfold F2 at hr0 HS
 go_enter Tryz.func106,Tryz.ntmps106
 go_wp2_with fail;refine wp_scope_jumps 0 (fun _ _ => False) (fun _ _ => 0) rfl ?_ (fun _ _ h => h.elim);go_wp2_with fail;refine c0.calls ?_;go_wp2_with fail
 go_step3
 go_wp2_with fail;refine c1.calls0 ?_;intro w1 h9;have hr1:=lH (hr_old (hr0.out.step h9) (.cells (H4 c t true n) 115));replace HS:=lH ((HS.out.step h9).alloc (.cells (H4 c t true n) 115));have hr2:=lH (hr_old hr1.out (.cells #[.int .i64 c,.int .i64 t,.bool true,.string ⟨#[]⟩,.slice none 0 0] 87));have HS2:=lH (HS.out.alloc (.cells #[.int .i64 c,.int .i64 t,.bool true,.string ⟨#[]⟩,.slice none 0 0] 87));have hp:=lH (hb_new w1 KT trivial (H4 c t true n) 115);unfold H4 at hr1 hr2 HS HS2 hp ⊢;obtain ⟨_,m0,m1,m2,m3⟩:=hb4 hp;clear h9 hr0;go_wp2_with fail;refine c3.calls ?_;go_wp2_with fail;refine c4.calls ?_;go_wp2_with fail;refine c5.calls ?_;go_wp2_with fail;refine c7.calls0 ?_;intro w5 h5;replace hr2:=lH (hr2.out.step h5);replace HS2:=lH (HS2.out.step h5);clear h5 hr1 HS;have hr0:=hr2;have HS:=HS2;clear hr2 HS2;go_wp2_with fail;refine c2.calls ?_;go_wp2_with (refine wpList_store_row rfl 65 _ _ rfl w.heap.size (F2 E 0) (by rfl) (by rfl) _ _ hr0.out.row (f2_info E 0) rfl (f2_one E 0) ?_)
 simp only [Exit.jump];exact bodyPost_ret (v:=fltV E 0) (results_tt_cell Tryz.results106 _ _ _ _ _ _ _ _ _ rfl rfl rfl (setRow_heap _ _ _ _ _ _ hr0.out.row) Tryz.underlying65 rfl (f2_info E 0)) rfl ⟨rfl,below_setRow HS.out (Nat.le_refl _) _⟩
end Tlv
namespace Tlv
open Span Flt Rw
theorem hr_cell {w:World} {g:Nat} {C:Array Value} {t:TypeId} {W:World} (h:HR w g C t W) (i:Nat) (v:Value) (hv:C[i]? = some v):W.cell? ⟨g,i,none⟩ = some v:=by
 unfold World.cell?;rw [h.row]
 simpa using hv
theorem hr_two (w w1:World) (C D:Array Value) (t u:TypeId):HR w (w1.heap.size + 1) D u ((w1.alloc (.cells C t)).alloc (.cells D u)):=⟨by
 have e:=heap_alloc_new (w1.alloc (.cells C t)) (.cells D u);rw [show (w1.alloc (.cells C t)).heap.size = w1.heap.size + 1 by simp] at e;exact e⟩
theorem HR.kept {w:World} {g:Nat} {C:Array Value} {t:TypeId} {W W':World} (h:HR w g C t W) (hk:KeptBut W W' (.slice none 0 0)):HR w g C t W' :=
 ⟨(hk.block g (Array.getElem?_eq_some_iff.1 h.row).1 (fun e => by cases e)).trans h.row⟩
theorem elemN:ElemIs 75 87 (.agg #[.int .i64 0,.int .i64 0,.bool false,.string ⟨#[]⟩,.slice none 0 0]) 5 64:=⟨Tryz.underlying75,by kernel_rfl,rfl,by decide⟩
theorem elemC:ElemIs 137 111 (.complex .f64 0 0) 1 16:=⟨Tryz.underlying137,by kernel_rfl,rfl,by decide⟩
theorem elemT:ElemIs 44 3 (.int .i64 0) 1 8:=⟨Tryz.underlying44,by kernel_rfl,rfl,by decide⟩
set_option maxHeartbeats 8000000 in
theorem walk_pf (s d:ByteArray) (h0:0 < s.size) (h:s.size <= 65535) (A C X1 X2 P Q:Nat) (c t n T K:Int) (c0:Ret 82 #[.int .i64 0,.int .i64 (s.size:Int)] (.complex .f64 A (fl (Q:Int))))
   (c1:Mak 85 #[.string s,.complex .f64 A (fl (Q:Int))] (.tuple #[.agg (H4 c t false n),.complex .f64 X1 X2,.int .i64 0])) (hP:decide (P < s.size) = true) (c9:Ret 83 #[.complex .f64 (fl (P:Int)) (fl (Q:Int))] (.int .i64 (P:Int))) (_c2:Ret 83 #[.complex .f64 A (fl (Q:Int))] (.int .i64 0)) (c3:Ret 87 #[.complex .f64 X1 X2] (.int .i64 T))
   (c4:Ret 86 #[.complex .f64 A (fl (Q:Int)),.int .i64 T] (.tuple #[.complex .f64 A (fl (P:Int)),.complex .f64 (fl (P:Int)) (fl (Q:Int))])) (v1:∀ w,(convert 155 3 (.float .f64 X1)).run Tryz.prog w = .ok (.int .i64 K) w)
   (c5:Ret 86 #[.complex .f64 A (fl (P:Int)),.int .i64 K] (.tuple #[.complex .f64 A C,.complex .f64 C (fl (P:Int))])) (c6:Ret 88 #[.string s,.complex .f64 C (fl (P:Int))] (.string d))
   (c7:Mak 136 #[.agg #[.int .i64 c,.int .i64 t,.bool false,.string d,.slice none 0 0],.int .i64 1,.int .i64 0] (.int .i64 0)):Mak 106 #[.string s] (fltV 5 (P:Int)):=by
 have e1:=ne_nil s (by omega);have h1:decide ((65535:Int) < (s.size:Int)) = false:=decide_eq_false (by omega);clear h h0;intro w;have hr0:Hid (HR w w.heap.size (F2 0 0) 65 (w.alloc (.cells (F2 0 0) 65))):=lH ⟨heap_alloc_new w _⟩;have HS:Hid (Since w (w.alloc (.cells (F2 0 0) 65))):=lH ((Since.refl w).alloc _);unfold F2 at hr0 HS
 go_enter Tryz.func106,Tryz.ntmps106
 go_wp2_with fail;refine wp_scope_jumps 0 (fun _ _ => False) (fun _ _ => 0) rfl ?_ (fun _ _ h => h.elim);go_wp2_with fail;refine c0.calls ?_;go_wp2_with fail
 go_step3
 go_wp2_with fail;refine c1.calls0 ?_;intro w1 h9;have HA:=lH (show Since (w.alloc (.cells #[.int .i64 0,.int .i64 0] 65)) w1 from h9);have hr1:=lH (hr_old (hr0.out.step h9) (.cells (H4 c t false n) 115));replace HS:=lH ((HS.out.step h9).alloc (.cells (H4 c t false n) 115));have hr2:=lH (hr_old hr1.out (.cells #[.int .i64 c,.int .i64 t,.bool false,.string d,.slice none 0 0] 87));have HS2:=lH (HS.out.alloc (.cells #[.int .i64 c,.int .i64 t,.bool false,.string d,.slice none 0 0] 87));have hp:=lH (hb_new w1 KT trivial (H4 c t false n) 115);unfold H4 at hr1 hr2 HS HS2 hp ⊢;obtain ⟨_,m0,m1,m2,m3⟩:=hb4 hp;clear h9 hr0;go_wp2_with fail;refine c3.calls ?_;go_wp2_with fail;refine c4.calls ?_;go_wp2_with fail;refine c5.calls ?_;go_wp2_with fail;refine c6.calls ?_;go_wp2_with fail;refine c7.calls0 ?_;intro w5 h5;have HS0:=lH (((HA.out.alloc (.cells #[.int .i64 c,.int .i64 t,.bool false,.int .i64 n] 115)).alloc (.cells #[.int .i64 c,.int .i64 t,.bool false,.string d,.slice none 0 0] 87)).step h5);have hn5:=lH ((hr_two w w1 #[.int .i64 c,.int .i64 t,.bool false,.int .i64 n] #[.int .i64 c,.int .i64 t,.bool false,.string d,.slice none 0 0] 115 87).step h5);have hd5:=lH ((hr_old (w:=w) ⟨heap_alloc_new w1 (.cells #[.int .i64 c,.int .i64 t,.bool false,.int .i64 n] 115)⟩ (.cells #[.int .i64 c,.int .i64 t,.bool false,.string d,.slice none 0 0] 87)).step h5);have n0:=hr_cell hn5.out 0 _ rfl;have n1:=hr_cell hn5.out 1 _ rfl;have n2:=hr_cell hn5.out 2 _ rfl;have n3:=hr_cell hn5.out 3 _ rfl;have n4:=hr_cell hn5.out 4 _ rfl;have hw5:=lH (Array.getElem?_eq_some_iff.1 hd5.out.row).1;have HR0:Hid (Rw.Rows w5 (w.alloc (.cells #[.int .i64 0,.int .i64 0] 65)).heap.size [⟨87,5,.slice none 0 0,0,[]⟩,⟨111,1,.slice none 0 0,0,[]⟩,⟨3,1,.slice none 0 0,0,[]⟩]):=lH ((((Rw.Rows.nil _ _).add_nil _ _).add_nil _ _).add_nil _ _);clear h5 hr1 HS m0 m1 m2 m3 hr2 HS2 hp HA;go_wp2_with (first
   | (at_builtin; refine app_rows elemN rfl _ _ (by rfl) (w.alloc (.cells #[.int .i64 0,.int .i64 0] 65)) w5 _ rfl [] [⟨111,1,.slice none 0 0,0,[]⟩,⟨3,1,.slice none 0 0,0,[]⟩] _ 0 [] (by rfl) HR0.out HS0.out #[.int .i64 c,.int .i64 t,.bool false,.string d,.slice none 0 0] 1 1 (by rfl) rfl (by intro u hu; simp at hu; rcases hu with rfl | rfl | rfl | rfl | rfl <;> rfl) (by decide) (by decide) ?_; intro tv w6 HQ1 HT1 hk1; have HR1:=lH HQ1; have HS1:=lH HT1; have HK1:=lH hk1; have hd6:=lH (HR.kept hd5.out hk1); clear HQ1 HT1 hk1)
   | (at_builtin; refine app_rows elemC rfl _ _ (by rfl) (w.alloc (.cells #[.int .i64 0,.int .i64 0] 65)) w6 _ rfl [_] [⟨3,1,.slice none 0 0,0,[]⟩] _ 0 [] (by rfl) HR1.out HS1.out #[.complex .f64 A (fl (P:Int))] 1 1 (by rfl) rfl (by intro u hu; simp at hu; subst hu; rfl) (by decide) (by decide) ?_; intro sv w7 HQ2 HT2 hk2; have HR2:=lH HQ2; have HS2:=lH HT2; have HK2:=lH hk2; have hd7:=lH (HR.kept hd6.out hk2); have m2:=hr_cell hd7.out 2 _ rfl; clear HQ2 HT2 hk2))
 refine (leave_none _ _ none 0 P Q s.size).mono ?_;rintro _ _ ⟨rfl,rfl⟩;have hr3:Hid (HR w w.heap.size #[.int .i64 0,.int .i64 0] 65 w7):=lH (HR.step (w:=w) ⟨heap_alloc_new w _⟩ HS2.out);have HS:Hid (Since w w7):=lH ((Since.alloc (Since.refl w) _).step HS2.out);have hr0:=hr3;clear hr3 m2;go_wp2_with fail;refine c9.calls ?_;go_wp2_with fail;refine c9.calls ?_;go_wp2_with (refine wpList_store_row rfl 65 _ _ rfl w.heap.size (F2 5 (P:Int)) (by rfl) (by rfl) _ _ hr0.out.row (f2_info 5 (P:Int)) rfl (f2_one 5 (P:Int)) ?_)
 simp only [Exit.jump];exact bodyPost_ret (v:=fltV 5 (P:Int)) (results_tt_cell Tryz.results106 _ _ _ _ _ _ _ _ _ rfl rfl rfl (setRow_heap _ _ _ _ _ _ hr0.out.row) Tryz.underlying65 rfl (f2_info 5 (P:Int))) rfl ⟨rfl,below_setRow HS.out (Nat.le_refl _) _⟩
set_option maxHeartbeats 8000000 in
theorem walk_pt (s d:ByteArray) (h0:0 < s.size) (h:s.size <= 65535) (A C X1 X2 P Q:Nat) (c t n T K:Int) (c0:Ret 82 #[.int .i64 0,.int .i64 (s.size:Int)] (.complex .f64 A (fl (Q:Int))))
   (c1:Mak 85 #[.string s,.complex .f64 A (fl (Q:Int))] (.tuple #[.agg (H4 c t false n),.complex .f64 X1 X2,.int .i64 0])) (hP:decide (P < s.size) = false) (c9:Ret 83 #[.complex .f64 (fl (P:Int)) (fl (Q:Int))] (.int .i64 (P:Int))) (_c2:Ret 83 #[.complex .f64 A (fl (Q:Int))] (.int .i64 0)) (c3:Ret 87 #[.complex .f64 X1 X2] (.int .i64 T))
   (c4:Ret 86 #[.complex .f64 A (fl (Q:Int)),.int .i64 T] (.tuple #[.complex .f64 A (fl (P:Int)),.complex .f64 (fl (P:Int)) (fl (Q:Int))])) (v1:∀ w,(convert 155 3 (.float .f64 X1)).run Tryz.prog w = .ok (.int .i64 K) w)
   (c5:Ret 86 #[.complex .f64 A (fl (P:Int)),.int .i64 K] (.tuple #[.complex .f64 A C,.complex .f64 C (fl (P:Int))])) (c6:Ret 88 #[.string s,.complex .f64 C (fl (P:Int))] (.string d))
   (c7:Mak 136 #[.agg #[.int .i64 c,.int .i64 t,.bool false,.string d,.slice none 0 0],.int .i64 1,.int .i64 0] (.int .i64 0)):∀ w,Calls Tryz.prog 106 #[.string s] w fun e w' => ∃ tv sv,e = .returned (.tuple #[tv,sv,.agg (F2 0 0)]) /\ Rw.Rows w' (w.alloc (.cells #[.int .i64 0,.int .i64 0] 65)).heap.size [⟨87,5,tv,1,[.int .i64 c,.int .i64 t,.bool false,.string d,.slice none 0 0]⟩,⟨111,1,sv,1,[.complex .f64 A (fl (P:Int))]⟩,⟨3,1,.slice none 0 0,0,[]⟩] /\ Since w w':=by
 have e1:=ne_nil s (by omega);have h1:decide ((65535:Int) < (s.size:Int)) = false:=decide_eq_false (by omega);clear h h0;intro w;have hr0:Hid (HR w w.heap.size (F2 0 0) 65 (w.alloc (.cells (F2 0 0) 65))):=lH ⟨heap_alloc_new w _⟩;have HS:Hid (Since w (w.alloc (.cells (F2 0 0) 65))):=lH ((Since.refl w).alloc _);unfold F2 at hr0 HS
 go_enter Tryz.func106,Tryz.ntmps106
 go_wp2_with fail;refine wp_scope_jumps 0 (fun _ _ => False) (fun _ _ => 0) rfl ?_ (fun _ _ h => h.elim);go_wp2_with fail;refine c0.calls ?_;go_wp2_with fail
 go_step3
 go_wp2_with fail;refine c1.calls0 ?_;intro w1 h9;have HA:=lH (show Since (w.alloc (.cells #[.int .i64 0,.int .i64 0] 65)) w1 from h9);have hr1:=lH (hr_old (hr0.out.step h9) (.cells (H4 c t false n) 115));replace HS:=lH ((HS.out.step h9).alloc (.cells (H4 c t false n) 115));have hr2:=lH (hr_old hr1.out (.cells #[.int .i64 c,.int .i64 t,.bool false,.string d,.slice none 0 0] 87));have HS2:=lH (HS.out.alloc (.cells #[.int .i64 c,.int .i64 t,.bool false,.string d,.slice none 0 0] 87));have hp:=lH (hb_new w1 KT trivial (H4 c t false n) 115);unfold H4 at hr1 hr2 HS HS2 hp ⊢;obtain ⟨_,m0,m1,m2,m3⟩:=hb4 hp;clear h9 hr0;go_wp2_with fail;refine c3.calls ?_;go_wp2_with fail;refine c4.calls ?_;go_wp2_with fail;refine c5.calls ?_;go_wp2_with fail;refine c6.calls ?_;go_wp2_with fail;refine c7.calls0 ?_;intro w5 h5;have HS0:=lH (((HA.out.alloc (.cells #[.int .i64 c,.int .i64 t,.bool false,.int .i64 n] 115)).alloc (.cells #[.int .i64 c,.int .i64 t,.bool false,.string d,.slice none 0 0] 87)).step h5);have hn5:=lH ((hr_two w w1 #[.int .i64 c,.int .i64 t,.bool false,.int .i64 n] #[.int .i64 c,.int .i64 t,.bool false,.string d,.slice none 0 0] 115 87).step h5);have hd5:=lH ((hr_old (w:=w) ⟨heap_alloc_new w1 (.cells #[.int .i64 c,.int .i64 t,.bool false,.int .i64 n] 115)⟩ (.cells #[.int .i64 c,.int .i64 t,.bool false,.string d,.slice none 0 0] 87)).step h5);have n0:=hr_cell hn5.out 0 _ rfl;have n1:=hr_cell hn5.out 1 _ rfl;have n2:=hr_cell hn5.out 2 _ rfl;have n3:=hr_cell hn5.out 3 _ rfl;have n4:=hr_cell hn5.out 4 _ rfl;have hw5:=lH (Array.getElem?_eq_some_iff.1 hd5.out.row).1;have HR0:Hid (Rw.Rows w5 (w.alloc (.cells #[.int .i64 0,.int .i64 0] 65)).heap.size [⟨87,5,.slice none 0 0,0,[]⟩,⟨111,1,.slice none 0 0,0,[]⟩,⟨3,1,.slice none 0 0,0,[]⟩]):=lH ((((Rw.Rows.nil _ _).add_nil _ _).add_nil _ _).add_nil _ _);clear h5 hr1 HS m0 m1 m2 m3 hr2 HS2 hp HA;go_wp2_with (first
   | (at_builtin; refine app_rows elemN rfl _ _ (by rfl) (w.alloc (.cells #[.int .i64 0,.int .i64 0] 65)) w5 _ rfl [] [⟨111,1,.slice none 0 0,0,[]⟩,⟨3,1,.slice none 0 0,0,[]⟩] _ 0 [] (by rfl) HR0.out HS0.out #[.int .i64 c,.int .i64 t,.bool false,.string d,.slice none 0 0] 1 1 (by rfl) rfl (by intro u hu; simp at hu; rcases hu with rfl | rfl | rfl | rfl | rfl <;> rfl) (by decide) (by decide) ?_; intro tv w6 HQ1 HT1 hk1; have HR1:=lH HQ1; have HS1:=lH HT1; have HK1:=lH hk1; have hd6:=lH (HR.kept hd5.out hk1); clear HQ1 HT1 hk1)
   | (at_builtin; refine app_rows elemC rfl _ _ (by rfl) (w.alloc (.cells #[.int .i64 0,.int .i64 0] 65)) w6 _ rfl [_] [⟨3,1,.slice none 0 0,0,[]⟩] _ 0 [] (by rfl) HR1.out HS1.out #[.complex .f64 A (fl (P:Int))] 1 1 (by rfl) rfl (by intro u hu; simp at hu; subst hu; rfl) (by decide) (by decide) ?_; intro sv w7 HQ2 HT2 hk2; have HR2:=lH HQ2; have HS2:=lH HT2; have HK2:=lH hk2; have hd7:=lH (HR.kept hd6.out hk2); have m2:=hr_cell hd7.out 2 _ rfl; clear HQ2 HT2 hk2))
 refine (leave_none _ _ none 0 P Q s.size).mono ?_;rintro _ _ ⟨rfl,rfl⟩;have hr3:Hid (HR w w.heap.size #[.int .i64 0,.int .i64 0] 65 w7):=lH (HR.step (w:=w) ⟨heap_alloc_new w _⟩ HS2.out);have HS:Hid (Since w w7):=lH ((Since.alloc (Since.refl w) _).step HS2.out);have hr0:=hr3;clear hr3 m2;go_wp2_with fail;refine c9.calls ?_;go_wp2_with (refine wpList_store_row rfl 65 _ _ rfl w.heap.size (F2 0 0) (by rfl) (by rfl) _ _ hr0.out.row (f2_info 0 0) rfl (f2_one 0 0) ?_)
 simp only [Exit.jump];have hself:w7.setRow w.heap.size (F2 0 0) = w7:=setRow_self _ _ _ _ _ hr0.out.row;rw [hself];exact bodyPost_ret (v:=.tuple #[tv,sv,.agg (F2 0 0)]) (results_tt_cell Tryz.results106 _ _ _ _ _ _ _ _ _ rfl rfl rfl hr0.out.row Tryz.underlying65 rfl (f2_info 0 0)) rfl ⟨tv,sv,rfl,HR2.out,HS.out⟩
end Tlv
namespace Tlv
open Span Flt Rw
theorem own_ov {W:World} {base:Nat} {tv sv ov:Value} {ns:List (Nd × Value)} {sp:List (Nat × Nat)} {op:List Nat} (h:Rw.Rows W base (WRows tv sv ov ns sp op)):W.ownsRow base 3 1 ov op.length (op.map (fun i:Nat => Value.int .i64 (i:Int))) :=
 h.own ⟨3,1,ov,op.length,op.map (fun i:Nat => Value.int .i64 (i:Int))⟩ (by unfold WRows; simp)
theorem own_sv {W:World} {base:Nat} {tv sv ov:Value} {ns:List (Nd × Value)} {sp:List (Nat × Nat)} {op:List Nat} (h:Rw.Rows W base (WRows tv sv ov ns sp op)):W.ownsRow base 111 1 sv sp.length (sp.map (fun p:Nat × Nat => Value.complex .f64 (Flt.fl (p.1:Int)) (Flt.fl (p.2:Int)))) :=
 h.own ⟨111,1,sv,sp.length,sp.map (fun p:Nat × Nat => Value.complex .f64 (Flt.fl (p.1:Int)) (Flt.fl (p.2:Int)))⟩ (by unfold WRows; simp)
theorem own_tv {W:World} {base:Nat} {tv sv ov:Value} {ns:List (Nd × Value)} {sp:List (Nat × Nat)} {op:List Nat} (h:Rw.Rows W base (WRows tv sv ov ns sp op)):W.ownsRow base 87 5 tv ns.length (ns.flatMap nc) :=
 h.own ⟨87,5,tv,ns.length,ns.flatMap nc⟩ (by unfold WRows; simp)
theorem leave_rows (W:World) (base:Nat) (tv sv ov:Value) (ns:List (Nd × Value)) (sp:List (Nat × Nat)) (op:List Nat) (s:ByteArray) (p e:Nat) (hR:Rw.Rows W base (WRows tv sv ov ns sp op)) (hM:Mid s (ns.map Prod.fst) sp op p e) (hs:s.size <= 65535) (hn:ns.length <= 1000)
   (M P Q:Nat) (hl:lv (En sp op) s.size op.length p e = (M,P,Q)) :
   Calls Tryz.prog 137 #[sv,ov,.complex .f64 (fl (p:Int)) (fl (e:Int)),.int .i64 (s.size:Int)] W fun x w' => ∃ ov',x = .returned (.tuple #[ov',.complex .f64 (fl (P:Int)) (fl (Q:Int))]) /\ W = w' /\ Rw.Rows W base (WRows tv sv ov' ns sp (op.take M)):=by
 have h3:=own_ov hR;have h2:=own_sv hR;have hlen:=hM.len;rw [List.length_map] at hlen
 by_cases h0:op.length = 0
 · obtain rfl:op = []:=List.eq_nil_of_length_eq_zero h0;rw [show ([]:List Nat).length = 0 from rfl,lv] at hl;cases hl;rcases h3.2 with ⟨rfl,_⟩ | ⟨g,cap,cur,rfl,_⟩
   · exact (leave_none W sv none 0 p e s.size).mono (fun x w' h => ⟨_,h.1,h.2,hR⟩)
   · exact (leave_none W sv (some ⟨g,0,none⟩) cap p e s.size).mono (fun x w' h => ⟨_,h.1,h.2,hR⟩)
 · obtain ⟨go,co,rfl,hco,hcm⟩:=own_form h3 (by omega);have hocc:∀ i,i < op.length -> op.getD i 0 < sp.length:=by
     intro i hi;have:=hM.occ (op.getD i 0) (by simp [List.getD,hi]);rw [List.length_map] at this;omega
   have hsl:0 < sp.length:=by have:=hocc 0 (by omega); omega
   obtain ⟨gs,cs,rfl,hcs,hcsm⟩:=own_form h2 hsl;have c3:=own_cells h3;have c2:=own_cells h2;have h1:=(mid_leave hM hl).1;refine (leave_some W go 0 co gs 0 sp.length cs op.length (fun i => op.getD i 0) (fun i => (sp.getD (op.getD i 0) (0,0)).1) (En sp op) s.size ?_ hocc ?_ ?_ hM.mono (fun h => hM.e0 h) hs p e hM.pe (by omega) (hM.en (by omega)) hco hcm (by omega) M P Q hl).mono ?_
   · intro i hi;rw [Nat.zero_add];exact (c3.2.2 i _ (by simp [List.getD,hi])).1
   · intro i hi;rw [Nat.zero_add];have ho:=hocc i hi;refine (c2.2.2 _ _ ?_).1;unfold En;generalize op.getD i 0 = o at ho ⊢;simp [List.getD,ho]
   · intro i hi;have ho:=hocc i hi;have hq:=hM.spn (sp.getD (op.getD i 0) (0,0)) (by generalize op.getD i 0 = o at ho ⊢; simp [List.getD,ho]);exact ⟨hq.1,by unfold En; omega⟩
   · rintro x w' ⟨rfl,rfl⟩;refine ⟨_,rfl,rfl, ?_⟩;have h9:=Rw.Rows.cut (L:=[_,_]) hR M h1 (by omega);unfold WRows;rw [List.length_take,Nat.min_eq_left h1,List.map_take];rw [Nat.mul_one] at h9;exact h9
end Tlv
end Go.Proofs.YtpanhhjkecebkaaGreat
