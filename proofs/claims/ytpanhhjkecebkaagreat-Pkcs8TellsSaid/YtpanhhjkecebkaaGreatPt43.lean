import Derived.Test.YtpanhhjkecebkaaGreatPt42
import Derived.Test.YtpanhhjkecebkaaGreatPt9
set_option maxRecDepth 100000
namespace Go.Proofs.YtpanhhjkecebkaaGreat
open Go.RowKit
namespace Tlv
open Span Flt Rw
section
variable (w0:World) (g:Nat) (s:ByteArray) (tv fv ov:Value) (ns:List (Nd × Value)) (fr to:List Nat) (X:List Row) (W:World) (p e deep c t n k x:Int) (b:Bool) (D:ByteArray)
set_option maxHeartbeats 1000000 in
theorem el_fp (tA:Option Addr) (tc:Nat) (htv:tv = .slice tA ns.length tc) (hRS:RS w0 g s tv fv ov ns fr to X W) (i1:0 <= p) (i2:p <= e) (i3:e <= (s.size:Int)) (hs:s.size <= 65535) (hD:s.extract p.toNat e.toNat = D) (i4:0 <= k) (i5:k <= 100) (i6:0 <= n) (i7:n <= 65535) (hf:decide (e < p + k + n) = false) (hd:decide (16 < deep) = false)
   (hx:decide ((1000:Int) <= (ns.length:Int)) = false) (Q:ByteArray) (hQ:s.extract (p + k).toNat (p + k + n).toNat = Q) (c1:Mak 93 #[.string D] (.tuple #[.agg #[.int .i64 0,.int .i64 t,.bool false,.int .i64 n],.int .i64 k,.int .i64 0]))
   (c2:Mak 164 #[.int .i64 t,.string Q] (.bool false)) :
   Calls Tryz.prog 139 #[.pointer (some ⟨g,0,none⟩),.int .i64 p,.int .i64 e,.int .i64 deep] W (ElErr w0 X 5 p):=by
 have hf':=of_decide_eq_false hf;have hw1:IntKind.i64.wrap (p + k) = p + k:=IntWalk.i64_in _ (by omega);have hw2:IntKind.i64.wrap (p + k + n) = p + k + n:=IntWalk.i64_in _ (by omega);subst hD htv hQ;have j1:p + k <= p + k + n:=by omega
 have j2:p + k + n <= (s.size:Int):=by omega
 have j3:0 <= p + k:=by omega
 have HRS:=lH (hRS.push [.int .i64 0,.int .i64 0] 65);obtain ⟨z0,-,-,-,-⟩:=HRS.out.cells;have hwb:=lH (Below.size hRS.since);clear hRS
 go_enter Tryz.func139,Tryz.ntmps139
 go_wp2_with fail;refine c1.calls0 ?_;intro w1 h1;have HR1:=lH ((HRS.out.step h1).push [.int .i64 0,.int .i64 t,.bool false,.int .i64 n] 126);have hh:=lone_heap (HR1.out.others.own (lone 126 w1.heap.size [.int .i64 0,.int .i64 t,.bool false,.int .i64 n]) (by simp));have hp:=lH (hb_new w1 KT trivial #[.int .i64 0,.int .i64 t,.bool false,.int .i64 n] 126);obtain ⟨_,m0,m1,m2,m3⟩:=hb4 hp;clear h1 hh z0;obtain ⟨z0,z1,-,-,-⟩:=HR1.out.cells;have hx2:decide (1000 <= ns.length) = false:=by have:=of_decide_eq_false hx; exact decide_eq_false (by omega)
 go_wp2_with fail;clear m0 m1 m2 m3 hp z0 z1;obtain ⟨-,z0,m0,m1,m2,m3⟩:=hd_s HR1
 go_region_held3 (fun W' => Hid (RS w0 g s (.slice tA ns.length tc) fv ov ns fr to (lone 126 w1.heap.size [.int .i64 0,.int .i64 t,.bool false,.int .i64 n] :: lone 65 W.heap.size [.int .i64 0,.int .i64 0] :: X) W') /\ W'.cell? ⟨g,0,none⟩ = some (.string s) /\ W'.cell? ⟨w1.heap.size,0,none⟩ = some (.int .i64 0) /\ W'.cell? ⟨w1.heap.size,1,none⟩ = some (.int .i64 t) /\ W'.cell? ⟨w1.heap.size,2,none⟩ = some (.bool false) /\ W'.cell? ⟨w1.heap.size,3,none⟩ = some (.int .i64 n))
   (first | exact hd_s (by assumption) | exact hd_s (rsD (by assumption)))
   (first | (go_at_call 164; refine c2.calls0 ?_; intro w3 h3; have HR3:=rsS h3 (by first | assumption | exact rsD (by assumption)); clear h3))
 all_goals
   replace HR1:=HR3;go_wp2_with fail;refine (faulty_mak 5 p).calls0 ?_;intro w2 h2;have HR2:=lH ((HR1.out.step h2).others);have hf:=lone_heap (HR2.out.own (lone 65 W.heap.size [.int .i64 0,.int .i64 0]) (by simp));have HS2:=lH ((HR1.out.step h2).since);clear h2;go_wp2_with (refine wpList_store_row rfl 65 _ _ rfl W.heap.size (F2 5 p) (by rfl) (by rfl) _ _ hf (f2_info 5 p) rfl (f2_one 5 p) ?_)
   exact bodyPost_ret (v:=.tuple #[.int .i64 0,.agg (F2 5 p)]) (results_t_cell Tryz.results139 _ _ _ _ _ _ _ _ rfl rfl (setRow_heap _ _ _ _ _ _ hf) Tryz.underlying65 rfl (f2_info 5 p)) rfl ⟨rfl,rows_setRow (rows_drop HR2.out) _,below_setRow HS2.out hwb.out _⟩
end
end Tlv
namespace Tlv
open Span Flt Rw
theorem belowQ (w:World) (q:Nat):Below w.heap.size w (w.drewN q):=⟨rfl,rfl,rfl,Nat.le_refl _,fun _ _ => rfl⟩
end Tlv
namespace Tlv
open Span Flt Rw
def ElOk (w0:World) (g:Nat) (s:ByteArray) (N:List Nd) (fr to:List Nat) (X:List Row) (q:Nat) (x:Ending) (W':World):Prop :=
 ∃ tv fv ov ns,x = .returned (.tuple #[.int .i64 (q:Int),.agg (F2 0 0)]) /\ RS w0 g s tv fv ov ns fr to X W' /\ ns.map Prod.fst = N /\ KL ns
theorem kl_more {ns:List (Nd × Value)} (h:KL ns) (x:Nd × Value) (hx:x.1.k = []):KL (ns ++ [x]):=by
 intro i y hy;rw [List.length_append,List.length_singleton]
 by_cases hi:i < ns.length
 · rw [List.getElem?_append_left hi] at hy;exact Nat.le_succ_of_le (h i y hy)
 · rw [List.getElem?_append_right (by omega)] at hy;cases hq:i - ns.length with
   | zero => rw [hq] at hy; cases hy; rw [hx]; exact Nat.zero_le _
   | succ j => rw [hq] at hy; cases hy
section
variable (w0:World) (g:Nat) (s:ByteArray) (fv ov:Value) (ns:List (Nd × Value)) (fr to:List Nat) (X:List Row) (W:World) (p e k n:Nat) (deep c t:Int)
set_option maxHeartbeats 4000000 in
theorem el_prim_c (tA:Option Addr) (tc:Nat) (hRS:RS w0 g s (.slice tA ns.length tc) fv ov ns fr to X W) (hKL:KL ns) (hn:ns.length <= 999) (hfr:fr.length <= 1000) (hto:to.length <= 1000) (i2:p <= e) (i3:e <= s.size) (hs:s.size <= 65535) (D:ByteArray) (hD:s.extract p e = D) (i5:k <= 100) (hf:p + k + n <= e) (hd:deep <= 16)
   (Q:ByteArray) (hQ:s.extract (p + k) (p + k + n) = Q) (hc0:(c == 0) = false) (c1:Mak 93 #[.string D] (.tuple #[.agg #[.int .i64 c,.int .i64 t,.bool false,.int .i64 (n:Int)],.int .i64 (k:Int),.int .i64 0])) :
   Calls Tryz.prog 139 #[.pointer (some ⟨g,0,none⟩),.int .i64 (p:Int),.int .i64 (e:Int),.int .i64 deep] W (ElOk w0 g s (ns.map Prod.fst ++ [⟨c,t,false,Q,[]⟩]) (fr ++ [p]) (to ++ [p + k + n]) X (p + k + n)):=by
 have hw1:IntKind.i64.wrap ((p:Int) + (k:Int)) = (p:Int) + (k:Int):=IntWalk.i64_in _ (by omega);have hw2:IntKind.i64.wrap ((p:Int) + (k:Int) + (n:Int)) = (p:Int) + (k:Int) + (n:Int):=IntWalk.i64_in _ (by omega);have t1:decide ((e:Int) < (p:Int) + (k:Int) + (n:Int)) = false:=decide_eq_false (by omega);have t2:decide ((16:Int) < deep) = false:=decide_eq_false (by omega);have t3:decide ((1000:Int) <= (ns.length:Int)) = false:=decide_eq_false (by omega);have t4:decide (1000 <= ns.length) = false:=decide_eq_false (by omega);have j0:(p:Int) <= (e:Int):=by omega
 have j1:(e:Int) <= (s.size:Int):=by omega
 have j2:(p:Int) + (k:Int) <= (p:Int) + (k:Int) + (n:Int):=by omega
 have j3:(p:Int) + (k:Int) + (n:Int) <= (s.size:Int):=by omega
 have j4:(0:Int) <= (p:Int) + (k:Int):=by omega
 have HB3:Hid (ns.length + 1 <= maxLen):=lH (by unfold maxLen; omega);have HB4:Hid ((ns.length + 1) * 64 <= 140737488355328):=lH (by omega);have HB5:Hid (fr.length + 1 <= maxLen):=lH (by unfold maxLen; omega);have HB6:Hid ((fr.length + 1) * 8 <= 140737488355328):=lH (by omega);have HB7:Hid (to.length + 1 <= maxLen):=lH (by unfold maxLen; omega);have HB8:Hid ((to.length + 1) * 8 <= 140737488355328):=lH (by omega);have HK:=lH hKL;have HQe:=lH hQ;subst hD hQ;clear i2 i3 hs hf hd hKL hfr hto;have HRS:=lH (hRS.push [.int .i64 0,.int .i64 0] 65);obtain ⟨z0,-,-,-,-⟩:=HRS.out.cells;have hwb:=lH (Below.size hRS.since);clear hRS
 go_enter Tryz.func139,Tryz.ntmps139
 go_wp2_with fail;refine c1.calls0 ?_;intro w1 h1;have HR1:=lH ((HRS.out.step h1).push [.int .i64 c,.int .i64 t,.bool false,.int .i64 (n:Int)] 126);clear h1 z0;obtain ⟨-,z0,m0,m1,m2,m3⟩:=hd_s HR1;have z1:=HR1.out.cells.2.1;go_wp2_with fail
 go_quiet (fail)
 have HR3:=rsS (belowQ _ nq) HR1;generalize (w1.alloc (.cells #[.int .i64 c,.int .i64 t,.bool false,.int .i64 (n:Int)] 126)).drewN nq = W4 at HR3 ⊢;clear z0 z1 m0 m1 m2 m3 HR1 HRS;obtain ⟨-,z0,m0,m1,m2,m3⟩:=hd_s HR3;have z1:=HR3.out.cells.2.1;have hl1:=HR3.out.lt;have hl2:=HR3.out.ltX;have HR4:=lH (HR3.out.push [.int .i64 c,.int .i64 t,.bool false,.string (s.extract (p + k) (p + k + n)),.slice none 0 0] 87);go_wp2_with fail;have hlg:=hl1;clear z0 z1 m0 m1 m2 m3 HR3 hl1 hl2;obtain ⟨-,z1,n0,n1,n2,n3,n4⟩:=en_s HR4;refine RegW.start (fun W' => W'.cell? ⟨g,1,none⟩ = some (.slice tA ns.length tc) /\ W'.cell? ⟨W4.heap.size,0,none⟩ = some (.int .i64 c) /\ W'.cell? ⟨W4.heap.size,1,none⟩ = some (.int .i64 t) /\ W'.cell? ⟨W4.heap.size,2,none⟩ = some (.bool false) /\ W'.cell? ⟨W4.heap.size,3,none⟩ = some (.string (s.extract (p + k) (p + k + n))) /\ W'.cell? ⟨W4.heap.size,4,none⟩ = some (.slice none 0 0)) 10 (by kernel_rfl) ((en_s (rsD HR4)).2) (fun hHeld => ?_);refine RegW.tk 0 rfl ?_;try simp only [RegW.p]
 refine RegW.tk 1 rfl ?_;try simp only [RegW.p]
 refine RegW.tk 2 rfl ?_;try simp only [RegW.p]
 refine RegW.tk 3 rfl ?_;try simp only [RegW.p]
 refine RegW.tk 4 rfl ?_;try simp only [RegW.p]
 refine RegW.tk 5 rfl ?_;try simp only [RegW.p]
 refine RegW.only (i:=6) rfl (by kernel_rfl) (fun K hK => ?_);go_simp;refine hK.out _ _ ((en_s (rsA _ (rsD HR4))).2) (fun hHeld => ?_);clear hK K;try simp only [RegW.p]
 refine RegW.only (i:=7) rfl (by kernel_rfl) (fun K hK => ?_);refine step_rows elemN rfl _ _ (by rfl) w0 _ [_] _ (.slice tA ns.length tc) ns.length (ns.flatMap nc) (by rfl) (rsA _ (rsD HR4)).out.rows (rsA _ (rsD HR4)).out.since (W4.heap.size + 1) [.int .i64 c,.int .i64 t,.bool false,.string (s.extract (p + k) (p + k + n)),.slice none 0 0] 1 1 (by rfl) (fun j u hj => alloc_cell_at _ _ _ (W4.heap.size + 1) (by first | rfl | simp) j u hj) rfl (by decide) (by intro u hu; simp at hu; rcases hu with rfl | rfl | rfl | rfl | rfl <;> rfl) HB3.out HB4.out ?_;intro tv2 w6 HQ HT;obtain ⟨ta2,tc2,rfl⟩:∃ A c,tv2 = .slice A (ns.length + 1) c:=own_any HQ.get;have k1:=(lone_cell (HQ.own (lone 147 g [.string s,.slice tA ns.length tc,fv,ov]) (by simp)) 1 _ rfl)
 have k2:=k1.2;have k3:=HQ.own (lone 87 W4.heap.size [.int .i64 c,.int .i64 t,.bool false,.string (s.extract (p + k) (p + k + n)),.slice none 0 0]) (by first | simp | (unfold RR; simp));have hS6:w6.cell? ⟨g,1,none⟩ = some (.slice tA ns.length tc) /\ w6.cell? ⟨W4.heap.size,0,none⟩ = some (.int .i64 c) /\ w6.cell? ⟨W4.heap.size,1,none⟩ = some (.int .i64 t) /\ w6.cell? ⟨W4.heap.size,2,none⟩ = some (.bool false) /\ w6.cell? ⟨W4.heap.size,3,none⟩ = some (.string (s.extract (p + k) (p + k + n))) /\ w6.cell? ⟨W4.heap.size,4,none⟩ = some (.slice none 0 0):=⟨k1.1,(lone_cell k3 0 _ rfl).1,(lone_cell k3 1 _ rfl).1,(lone_cell k3 2 _ rfl).1,(lone_cell k3 3 _ rfl).1,(lone_cell k3 4 _ rfl).1⟩
 replace k1:=k1.1;have HQ6:=lH HQ;have HT6:=lH HT;clear HQ HT k3;refine hK.out _ _ ?_ (fun hHeld => ?_)
 · exact hS6
 clear hK K;try simp only [RegW.p]
 refine RegW.only (i:=8) rfl (by kernel_rfl) (fun K hK => ?_);go_simp;refine hK.out _ _ (hHeld) (fun hHeld => ?_);clear hK K;try simp only [RegW.p]
 refine RegW.only (i:=9) rfl (by kernel_rfl) (fun K hK => ?_);go_simp;refine hK.out _ _ (hHeld) (fun hHeld => ?_);clear hK K;try simp only [RegW.p]
 have hrun:(storeVar 74 ⟨g,1,none⟩ (.slice ta2 (ns.length + 1) tc2)).run Tryz.prog w6 = .ok () (w6.setCell ⟨g,1,none⟩ (.slice ta2 (ns.length + 1) tc2)):=by simp [storeVar,go_sem,k1,k2]
 refine RegW.last rfl (by kernel_rfl) (by kernel_rfl) (RegW.put1 rfl _ _ _ rfl _ _ (by rfl) (by rfl) hrun ?_);clear hrun
 all_goals
   have HR6:=lH (RS.pop (rs_node HQ6.out HT6.out));generalize w6.setCell ⟨g,1,none⟩ (.slice ta2 (ns.length + 1) tc2) = W6 at HR6 ⊢;have HR6f:Hid (Rw.Rows W6 w0.heap.size ([_,_] ++ ⟨3,1,fv,fr.length,fr.map (fun i:Nat => Value.int .i64 (i:Int))⟩ :: _)):=lH (by have h:=HR6.out.rows; rw [rr_from] at h; exact h);have k7:=HR6.out.cells.2.2.1;clear z1 n0 n1 n2 n3 n4 k1 k2 hS6 hHeld HQ6 HT6 HR4;go_wp2_with (first
     | (at_builtin; refine app_rows elemT rfl _ _ (by rfl) w0 W6 _ rfl [_,_] _ fv fr.length (fr.map (fun i:Nat => Value.int .i64 (i:Int))) (by rfl) HR6f.out HR6.out.since #[.int .i64 (p:Int)] 1 1 (by rfl) rfl (by intro v hv; simp at hv; subst hv; rfl) HB5.out HB6.out ?_; intro fv2 w7 HQ HT hk; obtain ⟨xa,xc,rfl⟩:∃ A c,fv2 = .slice A (fr.length + 1) c:=own_any HQ.get; have HQ7:=lH HQ; have HT7:=lH HT; clear HQ HT hk k7)
     | (refine at_store (ty:=44) rfl ?_; refine store_rows rfl 44 _ _ rfl intl_one w0 w7 [] _ 147 4 g 1 1 [.string s,.slice ta2 (ns.length + 1) tc2,fv,ov] HQ7.out HT7.out 2 (by decide) (by rfl) (.slice xa (fr.length + 1) xc) (by rfl) rfl ?_; intro w8 HQ HT hk; have HR8:=lH (rs_from (p:=p) HQ HT); have HR8t:Hid (Rw.Rows w8 w0.heap.size ([_,_,_] ++ ⟨3,1,ov,to.length,to.map (fun i:Nat => Value.int .i64 (i:Int))⟩ :: _)):=lH (by have h:=HR8.out.rows; rw [rr_to] at h; exact h); have k8:=HR8.out.cells.2.2.2.1; clear HQ HT hk)
     | (at_builtin; refine app_rows elemT rfl _ _ (by rfl) w0 w8 _ rfl [_,_,_] _ ov to.length (to.map (fun i:Nat => Value.int .i64 (i:Int))) (by rfl) HR8t.out HR8.out.since #[.int .i64 ((p:Int) + (k:Int) + (n:Int))] 1 1 (by rfl) rfl (by intro v hv; simp at hv; subst hv; rfl) HB7.out HB8.out ?_; intro ov2 w9 HQ HT hk; obtain ⟨ya,yc,rfl⟩:∃ A c,ov2 = .slice A (to.length + 1) c:=own_any HQ.get; have HQ9:=lH HQ; have HT9:=lH HT; clear HQ HT hk k8)
     | (refine at_store (ty:=44) rfl ?_; refine store_rows rfl 44 _ _ rfl intl_one w0 w9 [] _ 147 4 g 1 1 [.string s,.slice ta2 (ns.length + 1) tc2,.slice xa (fr.length + 1) xc,ov] HQ9.out HT9.out 3 (by decide) (by rfl) (.slice ya (to.length + 1) yc) (by rfl) rfl ?_; intro w10 HQ HT hk; have HR10:=lH (rs_to (p:=p + k + n) (q:=(p:Int) + (k:Int) + (n:Int)) (by omega) HQ HT); have HHD:=hd_s HR10; have m2:=HHD.2.2.2.2.1; have hf:=lone_heap (HR10.out.others.own (lone 65 W.heap.size [.int .i64 0,.int .i64 0]) (by simp)); clear HQ HT hk HHD)
     | (refine wpList_store_row rfl 65 _ _ rfl W.heap.size (F2 0 0) (by rfl) (by rfl) _ _ hf (f2_info 0 0) rfl (f2_one 0 0) ?_))
   have hself:w10.setRow W.heap.size (F2 0 0) = w10:=setRow_self _ _ _ _ _ hf;rw [hself];exact bodyPost_ret (v:=.tuple #[.int .i64 ((p:Int) + (k:Int) + (n:Int)),.agg (F2 0 0)]) (results_t_cell Tryz.results139 _ _ _ _ _ _ _ _ rfl rfl hf Tryz.underlying65 rfl (f2_info 0 0)) rfl ⟨_,_,_,_,rfl,HR10.out.pop.pop,by rw [List.map_append]; rfl,kl_more HK.out _ rfl⟩
end
end Tlv
namespace Tlv
open Span Flt Rw
section
variable (w0:World) (g:Nat) (s:ByteArray) (fv ov:Value) (ns:List (Nd × Value)) (fr to:List Nat) (X:List Row) (W:World) (p e k n:Nat) (deep t:Int)
set_option maxHeartbeats 4000000 in
theorem el_prim_0 (tA:Option Addr) (tc:Nat) (hRS:RS w0 g s (.slice tA ns.length tc) fv ov ns fr to X W) (hKL:KL ns) (hn:ns.length <= 999) (hfr:fr.length <= 1000) (hto:to.length <= 1000) (i2:p <= e) (i3:e <= s.size) (hs:s.size <= 65535) (D:ByteArray) (hD:s.extract p e = D) (i5:k <= 100) (hf:p + k + n <= e) (hd:deep <= 16)
   (Q:ByteArray) (hQ:s.extract (p + k) (p + k + n) = Q) (c1:Mak 93 #[.string D] (.tuple #[.agg #[.int .i64 0,.int .i64 t,.bool false,.int .i64 (n:Int)],.int .i64 (k:Int),.int .i64 0])) (c2:Mak 164 #[.int .i64 t,.string Q] (.bool true)) :
   Calls Tryz.prog 139 #[.pointer (some ⟨g,0,none⟩),.int .i64 (p:Int),.int .i64 (e:Int),.int .i64 deep] W (ElOk w0 g s (ns.map Prod.fst ++ [⟨0,t,false,Q,[]⟩]) (fr ++ [p]) (to ++ [p + k + n]) X (p + k + n)):=by
 have hw1:IntKind.i64.wrap ((p:Int) + (k:Int)) = (p:Int) + (k:Int):=IntWalk.i64_in _ (by omega);have hw2:IntKind.i64.wrap ((p:Int) + (k:Int) + (n:Int)) = (p:Int) + (k:Int) + (n:Int):=IntWalk.i64_in _ (by omega);have t1:decide ((e:Int) < (p:Int) + (k:Int) + (n:Int)) = false:=decide_eq_false (by omega);have t2:decide ((16:Int) < deep) = false:=decide_eq_false (by omega);have t3:decide ((1000:Int) <= (ns.length:Int)) = false:=decide_eq_false (by omega);have t4:decide (1000 <= ns.length) = false:=decide_eq_false (by omega);have j0:(p:Int) <= (e:Int):=by omega
 have j1:(e:Int) <= (s.size:Int):=by omega
 have j2:(p:Int) + (k:Int) <= (p:Int) + (k:Int) + (n:Int):=by omega
 have j3:(p:Int) + (k:Int) + (n:Int) <= (s.size:Int):=by omega
 have j4:(0:Int) <= (p:Int) + (k:Int):=by omega
 have HB3:Hid (ns.length + 1 <= maxLen):=lH (by unfold maxLen; omega);have HB4:Hid ((ns.length + 1) * 64 <= 140737488355328):=lH (by omega);have HB5:Hid (fr.length + 1 <= maxLen):=lH (by unfold maxLen; omega);have HB6:Hid ((fr.length + 1) * 8 <= 140737488355328):=lH (by omega);have HB7:Hid (to.length + 1 <= maxLen):=lH (by unfold maxLen; omega);have HB8:Hid ((to.length + 1) * 8 <= 140737488355328):=lH (by omega);have HK:=lH hKL;have HQe:=lH hQ;subst hD hQ;clear i2 i3 hs hf hd hKL hfr hto;have HRS:=lH (hRS.push [.int .i64 0,.int .i64 0] 65);obtain ⟨z0,-,-,-,-⟩:=HRS.out.cells;have hwb:=lH (Below.size hRS.since);clear hRS
 go_enter Tryz.func139,Tryz.ntmps139
 go_wp2_with fail;refine c1.calls0 ?_;intro w1 h1;have HR1:=lH ((HRS.out.step h1).push [.int .i64 0,.int .i64 t,.bool false,.int .i64 (n:Int)] 126);clear h1 z0;obtain ⟨-,z0,m0,m1,m2,m3⟩:=hd_s HR1;have z1:=HR1.out.cells.2.1;go_wp2_with fail
 go_region_held3 (fun W' => Hid (RS w0 g s (.slice tA ns.length tc) fv ov ns fr to (lone 126 w1.heap.size [.int .i64 0,.int .i64 t,.bool false,.int .i64 (n:Int)] :: lone 65 W.heap.size [.int .i64 0,.int .i64 0] :: X) W') /\ W'.cell? ⟨g,0,none⟩ = some (.string s) /\ W'.cell? ⟨w1.heap.size,0,none⟩ = some (.int .i64 0) /\ W'.cell? ⟨w1.heap.size,1,none⟩ = some (.int .i64 t) /\ W'.cell? ⟨w1.heap.size,2,none⟩ = some (.bool false) /\ W'.cell? ⟨w1.heap.size,3,none⟩ = some (.int .i64 (n:Int)))
   (first | exact hd_s (by assumption) | exact hd_s (rsD (by assumption)))
   (first | (go_at_call 164; refine c2.calls0 ?_; intro W4 h3; have HR3:=rsS h3 (by first | assumption | exact rsD (by assumption)); clear h3))
 clear z0 z1 m0 m1 m2 m3 HR1 HRS;obtain ⟨-,z0,m0,m1,m2,m3⟩:=hd_s HR3;have z1:=HR3.out.cells.2.1;have hl1:=HR3.out.lt;have hl2:=HR3.out.ltX;have HR4:=lH (HR3.out.push [.int .i64 0,.int .i64 t,.bool false,.string (s.extract (p + k) (p + k + n)),.slice none 0 0] 87);go_wp2_with fail;have hlg:=hl1;clear z0 z1 m0 m1 m2 m3 HR3 hl1 hl2;obtain ⟨-,z1,n0,n1,n2,n3,n4⟩:=en_s HR4;refine RegW.start (fun W' => W'.cell? ⟨g,1,none⟩ = some (.slice tA ns.length tc) /\ W'.cell? ⟨W4.heap.size,0,none⟩ = some (.int .i64 0) /\ W'.cell? ⟨W4.heap.size,1,none⟩ = some (.int .i64 t) /\ W'.cell? ⟨W4.heap.size,2,none⟩ = some (.bool false) /\ W'.cell? ⟨W4.heap.size,3,none⟩ = some (.string (s.extract (p + k) (p + k + n))) /\ W'.cell? ⟨W4.heap.size,4,none⟩ = some (.slice none 0 0)) 10 (by kernel_rfl) ((en_s (rsD HR4)).2) (fun hHeld => ?_);refine RegW.tk 0 rfl ?_;try simp only [RegW.p]
 refine RegW.tk 1 rfl ?_;try simp only [RegW.p]
 refine RegW.tk 2 rfl ?_;try simp only [RegW.p]
 refine RegW.tk 3 rfl ?_;try simp only [RegW.p]
 refine RegW.tk 4 rfl ?_;try simp only [RegW.p]
 refine RegW.tk 5 rfl ?_;try simp only [RegW.p]
 refine RegW.only (i:=6) rfl (by kernel_rfl) (fun K hK => ?_);go_simp;refine hK.out _ _ ((en_s (rsA _ (rsD HR4))).2) (fun hHeld => ?_);clear hK K;try simp only [RegW.p]
 refine RegW.only (i:=7) rfl (by kernel_rfl) (fun K hK => ?_);refine step_rows elemN rfl _ _ (by rfl) w0 _ [_] _ (.slice tA ns.length tc) ns.length (ns.flatMap nc) (by rfl) (rsA _ (rsD HR4)).out.rows (rsA _ (rsD HR4)).out.since (W4.heap.size + 1) [.int .i64 0,.int .i64 t,.bool false,.string (s.extract (p + k) (p + k + n)),.slice none 0 0] 1 1 (by rfl) (fun j u hj => alloc_cell_at _ _ _ (W4.heap.size + 1) (by first | rfl | simp) j u hj) rfl (by decide) (by intro u hu; simp at hu; rcases hu with rfl | rfl | rfl | rfl | rfl <;> rfl) HB3.out HB4.out ?_;intro tv2 w6 HQ HT;obtain ⟨ta2,tc2,rfl⟩:∃ A c,tv2 = .slice A (ns.length + 1) c:=own_any HQ.get;have k1:=(lone_cell (HQ.own (lone 147 g [.string s,.slice tA ns.length tc,fv,ov]) (by simp)) 1 _ rfl)
 have k2:=k1.2;have k3:=HQ.own (lone 87 W4.heap.size [.int .i64 0,.int .i64 t,.bool false,.string (s.extract (p + k) (p + k + n)),.slice none 0 0]) (by first | simp | (unfold RR; simp));have hS6:w6.cell? ⟨g,1,none⟩ = some (.slice tA ns.length tc) /\ w6.cell? ⟨W4.heap.size,0,none⟩ = some (.int .i64 0) /\ w6.cell? ⟨W4.heap.size,1,none⟩ = some (.int .i64 t) /\ w6.cell? ⟨W4.heap.size,2,none⟩ = some (.bool false) /\ w6.cell? ⟨W4.heap.size,3,none⟩ = some (.string (s.extract (p + k) (p + k + n))) /\ w6.cell? ⟨W4.heap.size,4,none⟩ = some (.slice none 0 0):=⟨k1.1,(lone_cell k3 0 _ rfl).1,(lone_cell k3 1 _ rfl).1,(lone_cell k3 2 _ rfl).1,(lone_cell k3 3 _ rfl).1,(lone_cell k3 4 _ rfl).1⟩
 replace k1:=k1.1;have HQ6:=lH HQ;have HT6:=lH HT;clear HQ HT k3;refine hK.out _ _ ?_ (fun hHeld => ?_)
 · exact hS6
 clear hK K;try simp only [RegW.p]
 refine RegW.only (i:=8) rfl (by kernel_rfl) (fun K hK => ?_);go_simp;refine hK.out _ _ (hHeld) (fun hHeld => ?_);clear hK K;try simp only [RegW.p]
 refine RegW.only (i:=9) rfl (by kernel_rfl) (fun K hK => ?_);go_simp;refine hK.out _ _ (hHeld) (fun hHeld => ?_);clear hK K;try simp only [RegW.p]
 have hrun:(storeVar 74 ⟨g,1,none⟩ (.slice ta2 (ns.length + 1) tc2)).run Tryz.prog w6 = .ok () (w6.setCell ⟨g,1,none⟩ (.slice ta2 (ns.length + 1) tc2)):=by simp [storeVar,go_sem,k1,k2]
 refine RegW.last rfl (by kernel_rfl) (by kernel_rfl) (RegW.put1 rfl _ _ _ rfl _ _ (by rfl) (by rfl) hrun ?_);clear hrun
 all_goals
   have HR6:=lH (RS.pop (rs_node HQ6.out HT6.out));generalize w6.setCell ⟨g,1,none⟩ (.slice ta2 (ns.length + 1) tc2) = W6 at HR6 ⊢;have HR6f:Hid (Rw.Rows W6 w0.heap.size ([_,_] ++ ⟨3,1,fv,fr.length,fr.map (fun i:Nat => Value.int .i64 (i:Int))⟩ :: _)):=lH (by have h:=HR6.out.rows; rw [rr_from] at h; exact h);have k7:=HR6.out.cells.2.2.1;clear z1 n0 n1 n2 n3 n4 k1 k2 hS6 hHeld HQ6 HT6 HR4;go_wp2_with (first
     | (at_builtin; refine app_rows elemT rfl _ _ (by rfl) w0 W6 _ rfl [_,_] _ fv fr.length (fr.map (fun i:Nat => Value.int .i64 (i:Int))) (by rfl) HR6f.out HR6.out.since #[.int .i64 (p:Int)] 1 1 (by rfl) rfl (by intro v hv; simp at hv; subst hv; rfl) HB5.out HB6.out ?_; intro fv2 w7 HQ HT hk; obtain ⟨xa,xc,rfl⟩:∃ A c,fv2 = .slice A (fr.length + 1) c:=own_any HQ.get; have HQ7:=lH HQ; have HT7:=lH HT; clear HQ HT hk k7)
     | (refine at_store (ty:=44) rfl ?_; refine store_rows rfl 44 _ _ rfl intl_one w0 w7 [] _ 147 4 g 1 1 [.string s,.slice ta2 (ns.length + 1) tc2,fv,ov] HQ7.out HT7.out 2 (by decide) (by rfl) (.slice xa (fr.length + 1) xc) (by rfl) rfl ?_; intro w8 HQ HT hk; have HR8:=lH (rs_from (p:=p) HQ HT); have HR8t:Hid (Rw.Rows w8 w0.heap.size ([_,_,_] ++ ⟨3,1,ov,to.length,to.map (fun i:Nat => Value.int .i64 (i:Int))⟩ :: _)):=lH (by have h:=HR8.out.rows; rw [rr_to] at h; exact h); have k8:=HR8.out.cells.2.2.2.1; clear HQ HT hk)
     | (at_builtin; refine app_rows elemT rfl _ _ (by rfl) w0 w8 _ rfl [_,_,_] _ ov to.length (to.map (fun i:Nat => Value.int .i64 (i:Int))) (by rfl) HR8t.out HR8.out.since #[.int .i64 ((p:Int) + (k:Int) + (n:Int))] 1 1 (by rfl) rfl (by intro v hv; simp at hv; subst hv; rfl) HB7.out HB8.out ?_; intro ov2 w9 HQ HT hk; obtain ⟨ya,yc,rfl⟩:∃ A c,ov2 = .slice A (to.length + 1) c:=own_any HQ.get; have HQ9:=lH HQ; have HT9:=lH HT; clear HQ HT hk k8)
     | (refine at_store (ty:=44) rfl ?_; refine store_rows rfl 44 _ _ rfl intl_one w0 w9 [] _ 147 4 g 1 1 [.string s,.slice ta2 (ns.length + 1) tc2,.slice xa (fr.length + 1) xc,ov] HQ9.out HT9.out 3 (by decide) (by rfl) (.slice ya (to.length + 1) yc) (by rfl) rfl ?_; intro w10 HQ HT hk; have HR10:=lH (rs_to (p:=p + k + n) (q:=(p:Int) + (k:Int) + (n:Int)) (by omega) HQ HT); have HHD:=hd_s HR10; have m2:=HHD.2.2.2.2.1; have hf:=lone_heap (HR10.out.others.own (lone 65 W.heap.size [.int .i64 0,.int .i64 0]) (by simp)); clear HQ HT hk HHD)
     | (refine wpList_store_row rfl 65 _ _ rfl W.heap.size (F2 0 0) (by rfl) (by rfl) _ _ hf (f2_info 0 0) rfl (f2_one 0 0) ?_))
   have hself:w10.setRow W.heap.size (F2 0 0) = w10:=setRow_self _ _ _ _ _ hf;rw [hself];exact bodyPost_ret (v:=.tuple #[.int .i64 ((p:Int) + (k:Int) + (n:Int)),.agg (F2 0 0)]) (results_t_cell Tryz.results139 _ _ _ _ _ _ _ _ rfl rfl hf Tryz.underlying65 rfl (f2_info 0 0)) rfl ⟨_,_,_,_,rfl,HR10.out.pop.pop,by rw [List.map_append]; rfl,kl_more HK.out _ rfl⟩
end
end Tlv
namespace Tlv
open Span Flt Rw
theorem spans_app (f g:F) (p:Nat):(f.app g).spans p = f.spans p ++ g.spans (p + f.enc.length):=by
 induction f generalizing p with
 | nil => rfl
 | prim c t d nx ih =>
   show _ :: (nx.app g).spans _ = _ :: (nx.spans _ ++ g.spans (p + (Head.encL c t false d.size ++ d.data.toList ++ nx.enc).length))
   rw [ih]
   congr 3
   rw [List.length_append,List.length_append,show d.data.toList.length = d.size from rfl];omega
 | cons c t ks nx _ ih =>
   show _ :: (ks.spans _ ++ (nx.app g).spans _) = _ :: ((ks.spans _ ++ nx.spans _) ++ g.spans (p + (Head.encL c t true ks.enc.length ++ ks.enc ++ nx.enc).length))
   rw [ih,List.append_assoc]
   congr 4
   rw [List.length_append,List.length_append];omega
theorem dec_cnt (R:Int -> ByteArray -> Bool) (s:ByteArray):∀ (f p e deep cnt:Nat) (x:F),dec R s f p e deep cnt = .ok x -> x.cnt = 0 ∨ cnt + x.cnt <= 1000:=by
 intro f
 induction f with
 | zero => intro p e deep cnt x h; cases h
 | succ f ih =>
   intro p e deep cnt x h;unfold dec at h
   split at h
   · cases h; exact .inl rfl
   · cases hl:look R s p e deep cnt with
     | error c => rw [hl] at h; cases h
     | ok y =>
       obtain ⟨hh,k⟩:=y;rw [hl] at h;have lk:=(look_ok hl).cnt;dsimp only at h
       split at h
       · cases h1:dec R s f (p + k) (p + k + hh.n) (deep + 1) (cnt + 1) with
         | error z => rw [h1] at h; cases h
         | ok ks =>
           rw [h1] at h;dsimp only at h;cases h2:dec R s f (p + k + hh.n) e deep (cnt + 1 + ks.cnt) with
           | error z => rw [h2] at h; cases h
           | ok nx =>
             rw [h2] at h;cases h;have a1:=ih _ _ _ _ _ h1;have a2:=ih _ _ _ _ _ h2
             right
             show cnt + (1 + ks.cnt + nx.cnt) <= 1000
             omega
       · cases h2:dec R s f (p + k + hh.n) e deep (cnt + 1) with
         | error z => rw [h2] at h; cases h
         | ok nx =>
           rw [h2] at h;cases h;have a2:=ih _ _ _ _ _ h2
           right
           show cnt + (1 + nx.cnt) <= 1000
           omega
structure OneOk (s:ByteArray) (p e cnt:Nat) (f:F) (q:Nat):Prop where
 qe:q = p + f.enc.length
 lo:p + 2 <= q
 hi:q <= e
 tops:∀ i,f.tops i = [(i:Int)]
 few:cnt + f.cnt <= 1000
theorem one_ok {R:Int -> ByteArray -> Bool} {s:ByteArray} {p e deep cnt q:Nat} {f:F} (hp:p <= e) (he:e <= s.size) (h:one R s p e deep cnt = .ok (f,q)):OneOk s p e cnt f q:=by
 unfold one at h;cases hl:look R s p e deep cnt with
 | error c => rw [hl] at h; cases h
 | ok y =>
   obtain ⟨hh,k⟩:=y;rw [hl] at h;have lk:=look_ok hl;have l1:=lk.fit;have l2:=lk.pos;have l3:=lk.len;have l4:=lk.cnt;dsimp only at h
   split at h
   · rename_i hb
     cases h1:decA R s (p + k) (p + k + hh.n) (deep + 1) (cnt + 1) with
     | error z => rw [h1] at h; cases h
     | ok ks =>
       rw [h1] at h;cases h;have e1:=decA_enc (by omega) (by omega) h1;have e2:=dec_cnt R s _ _ _ _ _ _ h1;rw [show p + k + hh.n - (p + k) = hh.n by omega] at e1;refine ⟨?_,by omega,by omega,fun i => rfl, ?_⟩
       · show _ = p + (Head.encL hh.c hh.t true ks.enc.length ++ ks.enc ++ []).length
         rw [List.append_nil,List.length_append,e1,show true = hh.b from hb.symm,l3,Nat.add_assoc]
       · show cnt + (1 + ks.cnt + 0) <= 1000
         omega
   · rename_i hb
     cases h;refine ⟨?_,by omega,by omega,fun i => rfl, ?_⟩
     · show _ = p + (Head.encL hh.c hh.t false (s.extract (p + k) (p + k + hh.n)).size ++ (s.extract (p + k) (p + k + hh.n)).data.toList ++ []).length
       have hn:(s.extract (p + k) (p + k + hh.n)).size = hh.n:=by rw [ByteArray.size_extract]; omega
       rw [List.append_nil,List.length_append,show (s.extract (p + k) (p + k + hh.n)).data.toList.length = (s.extract (p + k) (p + k + hh.n)).size from rfl,hn,show false = hh.b by cases hbb:hh.b with | true => exact absurd hbb hb | false => rfl,l3,Nat.add_assoc]
     · show cnt + (1 + 0) <= 1000
       omega
theorem one_err {R:Int -> ByteArray -> Bool} {s:ByteArray} {p e deep cnt c q:Nat} (he:e <= s.size) (h:one R s p e deep cnt = .error (c,q)):c ≠ 0:=by
 unfold one at h;cases hl:look R s p e deep cnt with
 | error z => rw [hl] at h; cases h; exact look_err hl
 | ok y =>
   obtain ⟨hh,k⟩:=y;rw [hl] at h;have lk:=look_ok hl;have l1:=lk.fit;have l2:=lk.pos;dsimp only at h
   split at h
   · cases h1:decA R s (p + k) (p + k + hh.n) (deep + 1) (cnt + 1) with
     | error z => rw [h1] at h; cases h; exact (dec_err _ _ _ _ _ _ _ (by omega) (by omega) h1).1
     | ok ks => rw [h1] at h; cases h
   · cases h
structure LM (s:ByteArray) (N:List Nd) (c t:Int) (fr to:List Nat) (b stop deep P:Nat) (G:F) (NS:List (Nd × Value)) (FR TO:List Nat):Prop where
 nodes:NS.map Prod.fst = N ++ (⟨c,t,true,⟨#[]⟩,G.tops (N.length + 1)⟩ :: G.flat (N.length + 1))
 frs:FR = fr ++ (G.spans b).map Prod.fst
 tos:TO = to ++ (G.spans b).map Prod.snd
 kl:KL NS
 place:P = b + G.enc.length
 few:N.length + 1 + G.cnt <= 1000
 goal:decA Strs.rightB s b stop (deep + 1) (N.length + 1) = match decA Strs.rightB s P stop (deep + 1) (N.length + 1 + G.cnt) with
   | .error x => .error x
   | .ok nx => .ok (G.app nx)
section
variable {s:ByteArray} {N:List Nd} {c t:Int} {fr to:List Nat} {b stop deep P:Nat} {G:F} {NS:List (Nd × Value)} {FR TO:List Nat}
theorem lm_new (hN:NS.map Prod.fst = N) (hk:KL NS) (hn:NS.length <= 999):LM s N c t fr to b stop deep b .nil (NS ++ [(⟨c,t,true,⟨#[]⟩,[]⟩,.slice none 0 0)]) fr to:=by
 refine ⟨?_,(List.append_nil _).symm,(List.append_nil _).symm,kl_more hk _ rfl,rfl, ?_, ?_⟩
 · rw [List.map_append,hN]; rfl
 · rw [<- hN,List.length_map]; show _ + 0 <= 1000; omega
 · show _ = match decA Strs.rightB s b stop (deep + 1) (N.length + 1) with | .error x => (Except.error x:Except (Nat × Nat) F) | .ok nx => .ok nx
   cases decA Strs.rightB s b stop (deep + 1) (N.length + 1) <;> rfl
theorem LM.len (h:LM s N c t fr to b stop deep P G NS FR TO):NS.length = N.length + 1 + G.cnt:=by
 have h1:=congrArg List.length h.nodes;rw [List.length_map,List.length_append,List.length_cons,F.flat_len] at h1;omega
theorem LM.lenF (h:LM s N c t fr to b stop deep P G NS FR TO) (hf:fr.length = N.length + 1):FR.length = NS.length:=by
 rw [h.frs,List.length_append,List.length_map,F.spans_len,h.len,hf]
theorem LM.lenT (h:LM s N c t fr to b stop deep P G NS FR TO) (hf:to.length = N.length + 1):TO.length = NS.length:=by
 rw [h.tos,List.length_append,List.length_map,F.spans_len,h.len,hf]
theorem tops_len (f:F) (i:Nat):(f.tops i).length <= f.cnt:=by
 induction f generalizing i with
 | nil => exact Nat.zero_le _
 | prim c t d nx ih => show (nx.tops _).length + 1 <= 1 + nx.cnt; have:=ih (i + 1); omega
 | cons c t ks nx _ ih => show (nx.tops _).length + 1 <= 1 + ks.cnt + nx.cnt; have:=ih (i + 1 + ks.cnt); omega
theorem LM.node (h:LM s N c t fr to b stop deep P G NS FR TO):∃ nd kv,NS[N.length]? = some (nd,kv) /\ nd.k.length <= G.cnt:=by
 have h0:=h.len;have h1:(NS.map Prod.fst)[N.length]? = some ⟨c,t,true,⟨#[]⟩,G.tops (N.length + 1)⟩:=by
   rw [h.nodes,List.getElem?_append_right (Nat.le_refl _),Nat.sub_self]; rfl
 rw [List.getElem?_map,Option.map_eq_some_iff] at h1;obtain ⟨⟨nd,kv⟩,h2,h3⟩:=h1;refine ⟨nd,kv,h2, ?_⟩;have h4:nd = _:=h3;rw [h4];exact tops_len _ _
theorem kl_add {ns:List (Nd × Value)} (h:KL ns) (o:Nat) (c:Int) (v:Value) (ho:∀ x,ns[o]? = some x -> x.1.k.length + 1 <= ns.length):KL (addV ns o [c] v):=by
 intro i y hy;rw [addV_len];unfold addV at hy;rw [List.getElem?_modify] at hy;cases hq:ns[i]? with
 | none => rw [hq] at hy; cases hy
 | some z =>
   rw [hq] at hy;have h1:=h i z hq;have h2:(if o = i then (({ z.1 with k:=z.1.k ++ [c] },v):Nd × Value) else z) = y:=by
     have h3:=Option.some.inj hy;rw [<- h3]
   rw [<- h2]
   split
   · rename_i e
     subst e
     show (z.1.k ++ [c]).length <= _
     rw [List.length_append,List.length_singleton];exact ho z hq
   · exact h1
theorem LM.klA (h:LM s N c t fr to b stop deep P G NS FR TO) (x:Int) (v:Value):KL (addV NS N.length [x] v):=by
 refine kl_add h.kl _ _ _ fun y hy => ?_
 obtain ⟨nd,kv,h1,h2⟩:=h.node;rw [h1] at hy;cases hy;have:=h.len
 show nd.k.length + 1 <= _
 omega
theorem LM.err (h:LM s N c t fr to b stop deep P G NS FR TO) (hp:P < stop) {x:Nat × Nat} (h1:one Strs.rightB s P stop (deep + 1) NS.length = .error x):decA Strs.rightB s b stop (deep + 1) (N.length + 1) = .error x:=by
 rw [h.goal,decA_one _ _ _ _ _ _ hp,<- h.len,h1]
theorem LM.fin (h:LM s N c t fr to b stop deep P G NS FR TO) (hp:¬ P < stop):decA Strs.rightB s b stop (deep + 1) (N.length + 1) = .ok G:=by
 rw [h.goal,decA_nil _ _ _ _ _ _ (by omega)];dsimp only;rw [F.app_nil]
theorem LM.next (h:LM s N c t fr to b stop deep P G NS FR TO) (hp:P < stop) (hs:stop <= s.size) {f:F} {q:Nat} (h1:one Strs.rightB s P stop (deep + 1) NS.length = .ok (f,q)) {v:Value} {NS2:List (Nd × Value)}
   (h2:NS2.map Prod.fst = (addV NS N.length [(NS.length:Int)] v).map Prod.fst ++ f.flat NS.length) (hk:KL NS2):LM s N c t fr to b stop deep q (G.app f) NS2 (FR ++ (f.spans P).map Prod.fst) (TO ++ (f.spans P).map Prod.snd):=by
 have hl:=h.len;have ho:=one_ok (Nat.le_of_lt hp) hs h1;have hf:=ho.few;refine ⟨?_, ?_, ?_,hk, ?_, ?_, ?_⟩
 · rw [h2,addV_fst,h.nodes];have e1:addK (N ++ ⟨c,t,true,⟨#[]⟩,G.tops (N.length + 1)⟩ :: G.flat (N.length + 1)) N.length [(NS.length:Int)] = N ++ ⟨c,t,true,⟨#[]⟩,G.tops (N.length + 1) ++ [(NS.length:Int)]⟩ :: G.flat (N.length + 1):=by
     rw [show N ++ (⟨c,t,true,⟨#[]⟩,G.tops (N.length + 1)⟩:Nd) :: G.flat (N.length + 1) = (N ++ [⟨c,t,true,⟨#[]⟩,G.tops (N.length + 1)⟩]) ++ G.flat (N.length + 1) by simp,addK_app _ _ _ (by simp),addK_last];simp
   rw [e1,F.tops_app,F.flat_app,ho.tops,hl];simp
 · rw [h.frs,spans_app,h.place,List.map_append,List.append_assoc]
 · rw [h.tos,spans_app,h.place,List.map_append,List.append_assoc]
 · rw [ho.qe,h.place,F.enc_app,List.length_append]; omega
 · rw [F.cnt_app]; omega
 · rw [h.goal,decA_one _ _ _ _ _ _ hp,<- h.len,h1,F.cnt_app];dsimp only;rw [show NS.length + f.cnt = N.length + 1 + (G.cnt + f.cnt) by omega];cases decA Strs.rightB s q stop (deep + 1) (N.length + 1 + (G.cnt + f.cnt)) with
   | error x => rfl
   | ok nx => dsimp only; rw [F.app_assoc]
end
def ElAt (w0:World) (g:Nat) (s:ByteArray) (p e deep:Nat) (ns:List (Nd × Value)) (fr to:List Nat) (X:List Row) (x:Ending) (W':World):Prop :=
 match one Strs.rightB s p e deep ns.length with
 | .error (c,q) => ElErr w0 X (c:Int) (q:Int) x W'
 | .ok (f,q) => ElOk w0 g s (ns.map Prod.fst ++ f.flat ns.length) (fr ++ (f.spans p).map Prod.fst) (to ++ (f.spans p).map Prod.snd) X q x W'
def ElAll (m:Nat):Prop:=∀ (w0:World) (g:Nat) (s:ByteArray) (tv fv ov:Value) (ns:List (Nd × Value)) (fr to:List Nat) (X:List Row) (W:World) (p e deep:Nat),e - p < m -> p <= e -> e <= s.size -> s.size <= 65535 -> deep <= 1000 ->
 RS w0 g s tv fv ov ns fr to X W -> KL ns -> fr.length = ns.length -> to.length = ns.length -> ns.length <= 1000 ->
 Calls Tryz.prog 139 #[.pointer (some ⟨g,0,none⟩),.int .i64 (p:Int),.int .i64 (e:Int),.int .i64 (deep:Int)] W (ElAt w0 g s p e deep ns fr to X)
theorem at_err {w0:World} {g:Nat} {s:ByteArray} {p e deep:Nat} {ns:List (Nd × Value)} {fr to:List Nat} {X:List Row} {x:Ending} {W':World} {hh:Head.Hd} {k:Nat} (hl:look Strs.rightB s p e deep ns.length = .ok (hh,k)) (hb:hh.b = true)
   {c q:Nat} (h:decA Strs.rightB s (p + k) (p + k + hh.n) (deep + 1) ((ns.map Prod.fst).length + 1) = .error (c,q)) (h1:ElErr w0 X (c:Int) (q:Int) x W'):ElAt w0 g s p e deep ns fr to X x W':=by
 unfold ElAt one;rw [List.length_map] at h;rw [hl];dsimp only;rw [if_pos hb,h];exact h1
theorem at_ok {w0:World} {g:Nat} {s:ByteArray} {p e deep:Nat} {ns:List (Nd × Value)} {fr to:List Nat} {X:List Row} {x:Ending} {W':World} {hh:Head.Hd} {k:Nat} (he:e <= s.size) (hl:look Strs.rightB s p e deep ns.length = .ok (hh,k)) (hb:hh.b = true)
   {G:F} (h:decA Strs.rightB s (p + k) (p + k + hh.n) (deep + 1) ((ns.map Prod.fst).length + 1) = .ok G) {P:Nat} {NS:List (Nd × Value)} {FR TO:List Nat} (hm:LM s (ns.map Prod.fst) (hh.c:Int) (hh.t:Int) (fr ++ [p]) (to ++ [p + k + hh.n]) (p + k) (p + k + hh.n) deep P G NS FR TO)
   {tv fv ov:Value} (hr:RS w0 g s tv fv ov NS FR TO X W') (hx:x = .returned (.tuple #[.int .i64 ((p:Int) + (k:Int) + (hh.n:Int)),.agg (F2 0 0)])):ElAt w0 g s p e deep ns fr to X x W':=by
 have lk:=look_ok hl;have l1:=lk.fit;have l2:=lk.pos;have l3:=lk.len;have e1:=decA_enc (by omega) (by omega) h;rw [show p + k + hh.n - (p + k) = hh.n by omega] at e1;rw [hb] at l3;unfold ElAt one;rw [List.length_map] at h;rw [hl];dsimp only;rw [if_pos hb,h];have e2:(Head.encL hh.c hh.t true G.enc.length).length = k:=by rw [e1]; exact l3
 refine ⟨tv,fv,ov,NS,by rw [hx,show ((p + k + hh.n:Nat):Int) = (p:Int) + (k:Int) + (hh.n:Int) by omega], ?_, ?_,hm.kl⟩
 · have e3:(F.cons hh.c hh.t G .nil).spans p = (p,p + k + hh.n) :: G.spans (p + k):=by
     show (p,p + ((Head.encL hh.c hh.t true G.enc.length).length + G.enc.length)) :: (G.spans (p + (Head.encL hh.c hh.t true G.enc.length).length) ++ []) = _
     rw [e2,e1,List.append_nil,Nat.add_assoc]
   rw [e3,List.map_cons,List.map_cons];have e4:=hm.frs;have e5:=hm.tos;rw [List.append_assoc] at e4 e5;rw [show fr ++ (p :: (G.spans (p + k)).map Prod.fst) = FR from e4.symm,show to ++ ((p + k + hh.n) :: (G.spans (p + k)).map Prod.snd) = TO from e5.symm];exact hr
 · rw [hm.nodes,List.length_map]
   show _ = _ ++ (_ :: (G.flat (ns.length + 1) ++ []))
   rw [List.append_nil]
def kidA (g:Nat) (s:ByteArray) (tv fv ov:Value) (ns:List (Nd × Value)) (fr to:List Nat) (o:Nat):List Row :=
 lone 147 g [.string s,tv,fv,ov] :: ⟨87,5,tv,ns.length,ns.flatMap nc⟩ :: ⟨3,1,fv,fr.length,fr.map (fun i:Nat => Value.int .i64 (i:Int))⟩ :: ⟨3,1,ov,to.length,to.map (fun i:Nat => Value.int .i64 (i:Int))⟩ :: (ns.take o).map kr
def kidB (ns:List (Nd × Value)) (X:List Row) (o:Nat):List Row:=(ns.drop (o + 1)).map kr ++ X
section
variable {w0:World} {g:Nat} {s:ByteArray} {tv fv ov:Value} {ns:List (Nd × Value)} {fr to:List Nat} {X:List Row} {W:World}
theorem rr_kid {o:Nat} {nd:Nd} {kv:Value} (h:ns[o]? = some (nd,kv)):RR g s tv fv ov ns fr to X = kidA g s tv fv ov ns fr to o ++ ⟨3,1,kv,nd.k.length,nd.k.map (Value.int .i64)⟩ :: kidB ns X o:=by
 unfold RR kidA kidB;rw [kr_split ns o _ h];simp [kr]
theorem RS.kid {o:Nat} {nd:Nd} {kv:Value} (hr:RS w0 g s tv fv ov ns fr to X W) (h:ns[o]? = some (nd,kv)):Rw.Rows W w0.heap.size (kidA g s tv fv ov ns fr to o ++ ⟨3,1,kv,nd.k.length,nd.k.map (Value.int .i64)⟩ :: kidB ns X o):=rr_kid h ▸ hr.rows
theorem kid_more {o:Nat} {nd:Nd} {kv kv2:Value} {c:Int} (h:ns[o]? = some (nd,kv)) (hr:Rw.Rows W w0.heap.size (kidA g s tv fv ov ns fr to o ++ ⟨3,1,kv2,nd.k.length + 1,nd.k.map (Value.int .i64) ++ [.int .i64 c]⟩ :: kidB ns X o)) :
   Rw.Rows W w0.heap.size ([lone 147 g [.string s,tv,fv,ov]] ++ ⟨87,5,tv,ns.length,ns.flatMap nc⟩ :: ((RR g s tv fv ov (addV ns o [c] kv2) fr to X).drop 2)):=by
 have e:kidA g s tv fv ov ns fr to o ++ ⟨3,1,kv2,nd.k.length + 1,nd.k.map (Value.int .i64) ++ [.int .i64 c]⟩ :: kidB ns X o = [lone 147 g [.string s,tv,fv,ov]] ++ ⟨87,5,tv,ns.length,ns.flatMap nc⟩ :: ((RR g s tv fv ov (addV ns o [c] kv2) fr to X).drop 2):=by
   unfold RR kidA kidB;rw [kr_add ns o _ h];simp
 exact e ▸ hr
theorem kid_set {o gt ct:Nat} {kv2:Value} {c:Int} {nN:Nat} (hn:ns.length = nN) (ho:o < ns.length)
   (hr:Rw.Rows W w0.heap.size ([lone 147 g [.string s,.slice (some ⟨gt,0,none⟩) nN ct,fv,ov]] ++ ⟨87,5,.slice (some ⟨gt,0,none⟩) nN ct,ns.length,ns.flatMap nc⟩ :: ((RR g s (.slice (some ⟨gt,0,none⟩) nN ct) fv ov (addV ns o [c] kv2) fr to X).drop 2))) (hS:Since w0 W) :
   RS w0 g s (.slice (some ⟨gt,0,none⟩) nN ct) fv ov (addV ns o [c] kv2) fr to X (W.setCell ⟨gt,o * 5 + 4,none⟩ kv2):=by
 subst hn;have hb:=(own_cells hr.get).1;have h2:=Rw.Rows.set hr (o * 5 + 4) (by omega) kv2;refine ⟨?_,Below.setCell (p:=⟨gt,o * 5 + 4,none⟩) hS hb _⟩;rw [nc_set ns o [c] kv2 ho] at h2;have e:RR g s (.slice (some ⟨gt,0,none⟩) ns.length ct) fv ov (addV ns o [c] kv2) fr to X = [lone 147 g [.string s,.slice (some ⟨gt,0,none⟩) ns.length ct,fv,ov]] ++ ⟨87,5,.slice (some ⟨gt,0,none⟩) ns.length ct,ns.length,(addV ns o [c] kv2).flatMap nc⟩ :: ((RR g s (.slice (some ⟨gt,0,none⟩) ns.length ct) fv ov (addV ns o [c] kv2) fr to X).drop 2):=by
   conv => lhs; unfold RR
   unfold RR;rw [addV_len];rfl
 rw [e];exact h2
theorem RS.far {gt n ct:Nat} (h:RS w0 g s (.slice (some ⟨gt,0,none⟩) n ct) fv ov ns fr to X W):g ≠ gt:=by
 have h1:=h.rows.apart;unfold RR at h1;have h2:=(List.pairwise_cons.1 h1).1 ⟨87,5,.slice (some ⟨gt,0,none⟩) n ct,ns.length,ns.flatMap nc⟩ (by simp);intro e;subst e;exact h2 g rfl rfl
end
end Tlv
namespace Tlv
open Span Flt Rw
section
variable (w0:World) (g:Nat) (s:ByteArray) (fv ov:Value) (ns:List (Nd × Value)) (fr to:List Nat) (X:List Row) (W:World) (p e k n deep:Nat) (c t:Int) (Q:Ending -> World -> Prop)
set_option maxHeartbeats 4000000 in
theorem el_cons_c (m:Nat) (IH:ElAll m) (tA:Option Addr) (tc:Nat) (hRS:RS w0 g s (.slice tA ns.length tc) fv ov ns fr to X W) (hKL:KL ns) (hn:ns.length <= 999) (hfr:fr.length = ns.length) (hto:to.length = ns.length) (i2:p <= e) (i3:e <= s.size) (hs:s.size <= 65535) (D:ByteArray) (hD:s.extract p e = D) (hkp:1 <= k) (i5:k <= 100) (hf:p + k + n <= e) (hd:deep <= 16) (hm:e - p < m + 1)
   (hc0:(c == 0) = false) (c1:Mak 93 #[.string D] (.tuple #[.agg #[.int .i64 c,.int .i64 t,.bool true,.int .i64 (n:Int)],.int .i64 (k:Int),.int .i64 0]))
   (hE:∀ (a q:Nat) x W',decA Strs.rightB s (p + k) (p + k + n) (deep + 1) ((ns.map Prod.fst).length + 1) = .error (a,q) -> ElErr w0 X (a:Int) (q:Int) x W' -> Q x W')
   (hO:∀ (G:F) P NS FR TO (tv fv ov:Value) W' x,decA Strs.rightB s (p + k) (p + k + n) (deep + 1) ((ns.map Prod.fst).length + 1) = .ok G -> LM s (ns.map Prod.fst) c t (fr ++ [p]) (to ++ [p + k + n]) (p + k) (p + k + n) deep P G NS FR TO -> RS w0 g s tv fv ov NS FR TO X W' -> x = .returned (.tuple #[.int .i64 ((p:Int) + (k:Int) + (n:Int)),.agg (F2 0 0)]) -> Q x W') :
   Calls Tryz.prog 139 #[.pointer (some ⟨g,0,none⟩),.int .i64 (p:Int),.int .i64 (e:Int),.int .i64 (deep:Int)] W Q:=by
 have hw1:IntKind.i64.wrap ((p:Int) + (k:Int)) = (p:Int) + (k:Int):=IntWalk.i64_in _ (by omega);have hw2:IntKind.i64.wrap ((p:Int) + (k:Int) + (n:Int)) = (p:Int) + (k:Int) + (n:Int):=IntWalk.i64_in _ (by omega);have hw3:IntKind.i64.wrap ((deep:Int) + 1) = (deep:Int) + 1:=IntWalk.i64_in _ (by omega);have t1:decide ((e:Int) < (p:Int) + (k:Int) + (n:Int)) = false:=decide_eq_false (by omega);have t2:decide ((16:Int) < (deep:Int)) = false:=decide_eq_false (by omega);have t3:decide ((1000:Int) <= (ns.length:Int)) = false:=decide_eq_false (by omega);have t4:decide (1000 <= ns.length) = false:=decide_eq_false (by omega);have t5:decide (16 < deep) = false:=decide_eq_false (by omega);have j0:(p:Int) <= (e:Int):=by omega
 have j1:(e:Int) <= (s.size:Int):=by omega
 have HB3:Hid (ns.length + 1 <= maxLen):=lH (by unfold maxLen; omega);have HB4:Hid ((ns.length + 1) * 64 <= 140737488355328):=lH (by omega);have HB5:Hid (fr.length + 1 <= maxLen):=lH (by unfold maxLen; omega);have HB6:Hid ((fr.length + 1) * 8 <= 140737488355328):=lH (by omega);have HB7:Hid (to.length + 1 <= maxLen):=lH (by unfold maxLen; omega);have HB8:Hid ((to.length + 1) * 8 <= 140737488355328):=lH (by omega);have HK:=lH hKL;have HN:=lH hn;have HFR:=lH hfr;have HTO:=lH hto;have HIH:=lH IH;have HM:=lH hm;have HKP:=lH hkp;have HE:=lH hE;have HO:=lH hO;have HF:=lH hf;have HI3:=lH i3;have HSZ:=lH hs;have HD16:=lH hd;subst hD;clear i2 i3 hs hf hd hKL hfr hto hn IH hm hkp hE hO i5;have HRS:=lH (hRS.push [.int .i64 0,.int .i64 0] 65);obtain ⟨z0,-,-,-,-⟩:=HRS.out.cells;have hwb:=lH (Below.size hRS.since);clear hRS
 go_enter Tryz.func139,Tryz.ntmps139
 go_wp2_with fail;refine c1.calls0 ?_;intro w1 h1;have HR1:=lH ((HRS.out.step h1).push [.int .i64 c,.int .i64 t,.bool true,.int .i64 (n:Int)] 126);clear h1 z0;obtain ⟨-,z0,m0,m1,m2,m3⟩:=hd_s HR1;have z1:=HR1.out.cells.2.1;go_wp2_with fail
 go_quiet (fail)
 have HR3:=rsS (belowQ _ nq) HR1;generalize (w1.alloc (.cells #[.int .i64 c,.int .i64 t,.bool true,.int .i64 (n:Int)] 126)).drewN nq = W4 at HR3 ⊢;clear z0 z1 m0 m1 m2 m3 HR1 HRS;obtain ⟨-,z0,m0,m1,m2,m3⟩:=hd_s HR3;have z1:=HR3.out.cells.2.1;have hl1:=HR3.out.lt;have hl2:=HR3.out.ltX;have HR4:=lH (HR3.out.push [.int .i64 c,.int .i64 t,.bool true,.string ⟨#[]⟩,.slice none 0 0] 87);go_wp2_with fail;have hlg:=hl1;clear z0 z1 m0 m1 m2 m3 HR3 hl1 hl2;obtain ⟨-,z1,n0,n1,n2,n3,n4⟩:=en_s HR4;refine RegW.start (fun W' => W'.cell? ⟨g,1,none⟩ = some (.slice tA ns.length tc) /\ W'.cell? ⟨W4.heap.size,0,none⟩ = some (.int .i64 c) /\ W'.cell? ⟨W4.heap.size,1,none⟩ = some (.int .i64 t) /\ W'.cell? ⟨W4.heap.size,2,none⟩ = some (.bool true) /\ W'.cell? ⟨W4.heap.size,3,none⟩ = some (.string ⟨#[]⟩) /\ W'.cell? ⟨W4.heap.size,4,none⟩ = some (.slice none 0 0)) 10 (by kernel_rfl) ((en_s (rsD HR4)).2) (fun hHeld => ?_);refine RegW.tk 0 rfl ?_;try simp only [RegW.p]
 refine RegW.tk 1 rfl ?_;try simp only [RegW.p]
 refine RegW.tk 2 rfl ?_;try simp only [RegW.p]
 refine RegW.tk 3 rfl ?_;try simp only [RegW.p]
 refine RegW.tk 4 rfl ?_;try simp only [RegW.p]
 refine RegW.tk 5 rfl ?_;try simp only [RegW.p]
 refine RegW.only (i:=6) rfl (by kernel_rfl) (fun K hK => ?_);go_simp;refine hK.out _ _ ((en_s (rsA _ (rsD HR4))).2) (fun hHeld => ?_);clear hK K;try simp only [RegW.p]
 refine RegW.only (i:=7) rfl (by kernel_rfl) (fun K hK => ?_);refine step_rows elemN rfl _ _ (by rfl) w0 _ [_] _ (.slice tA ns.length tc) ns.length (ns.flatMap nc) (by rfl) (rsA _ (rsD HR4)).out.rows (rsA _ (rsD HR4)).out.since (W4.heap.size + 1) [.int .i64 c,.int .i64 t,.bool true,.string ⟨#[]⟩,.slice none 0 0] 1 1 (by rfl) (fun j u hj => alloc_cell_at _ _ _ (W4.heap.size + 1) (by first | rfl | simp) j u hj) rfl (by decide) (by intro u hu; simp at hu; rcases hu with rfl | rfl | rfl | rfl | rfl <;> rfl) HB3.out HB4.out ?_;intro tv2 w6 HQ HT;obtain ⟨ta2,tc2,rfl⟩:∃ A c,tv2 = .slice A (ns.length + 1) c:=own_any HQ.get;have k1:=(lone_cell (HQ.own (lone 147 g [.string s,.slice tA ns.length tc,fv,ov]) (by simp)) 1 _ rfl)
 have k2:=k1.2;have k3:=HQ.own (lone 87 W4.heap.size [.int .i64 c,.int .i64 t,.bool true,.string ⟨#[]⟩,.slice none 0 0]) (by first | simp | (unfold RR; simp));have hS6:w6.cell? ⟨g,1,none⟩ = some (.slice tA ns.length tc) /\ w6.cell? ⟨W4.heap.size,0,none⟩ = some (.int .i64 c) /\ w6.cell? ⟨W4.heap.size,1,none⟩ = some (.int .i64 t) /\ w6.cell? ⟨W4.heap.size,2,none⟩ = some (.bool true) /\ w6.cell? ⟨W4.heap.size,3,none⟩ = some (.string ⟨#[]⟩) /\ w6.cell? ⟨W4.heap.size,4,none⟩ = some (.slice none 0 0):=⟨k1.1,(lone_cell k3 0 _ rfl).1,(lone_cell k3 1 _ rfl).1,(lone_cell k3 2 _ rfl).1,(lone_cell k3 3 _ rfl).1,(lone_cell k3 4 _ rfl).1⟩
 replace k1:=k1.1;have HQ6:=lH HQ;have HT6:=lH HT;clear HQ HT k3;refine hK.out _ _ ?_ (fun hHeld => ?_)
 · exact hS6
 clear hK K;try simp only [RegW.p]
 refine RegW.only (i:=8) rfl (by kernel_rfl) (fun K hK => ?_);go_simp;refine hK.out _ _ (hHeld) (fun hHeld => ?_);clear hK K;try simp only [RegW.p]
 refine RegW.only (i:=9) rfl (by kernel_rfl) (fun K hK => ?_);go_simp;refine hK.out _ _ (hHeld) (fun hHeld => ?_);clear hK K;try simp only [RegW.p]
 have hrun:(storeVar 74 ⟨g,1,none⟩ (.slice ta2 (ns.length + 1) tc2)).run Tryz.prog w6 = .ok () (w6.setCell ⟨g,1,none⟩ (.slice ta2 (ns.length + 1) tc2)):=by simp [storeVar,go_sem,k1,k2]
 refine RegW.last rfl (by kernel_rfl) (by kernel_rfl) (RegW.put1 rfl _ _ _ rfl _ _ (by rfl) (by rfl) hrun ?_);clear hrun
 all_goals
   have HR6:=lH (RS.pop (rs_node HQ6.out HT6.out));generalize w6.setCell ⟨g,1,none⟩ (.slice ta2 (ns.length + 1) tc2) = W6 at HR6 ⊢;have HR6f:Hid (Rw.Rows W6 w0.heap.size ([_,_] ++ ⟨3,1,fv,fr.length,fr.map (fun i:Nat => Value.int .i64 (i:Int))⟩ :: _)):=lH (by have h:=HR6.out.rows; rw [rr_from] at h; exact h);have k7:=HR6.out.cells.2.2.1;clear z1 n0 n1 n2 n3 n4 k1 k2 hS6 hHeld HQ6 HT6 HR4;go_wp2_with (first
     | (at_builtin; refine app_rows elemT rfl _ _ (by rfl) w0 W6 _ rfl [_,_] _ fv fr.length (fr.map (fun i:Nat => Value.int .i64 (i:Int))) (by rfl) HR6f.out HR6.out.since #[.int .i64 (p:Int)] 1 1 (by rfl) rfl (by intro v hv; simp at hv; subst hv; rfl) HB5.out HB6.out ?_; intro fv2 w7 HQ HT hk; obtain ⟨xa,xc,rfl⟩:∃ A c,fv2 = .slice A (fr.length + 1) c:=own_any HQ.get; have HQ7:=lH HQ; have HT7:=lH HT; clear HQ HT hk k7)
     | (refine at_store (ty:=44) rfl ?_; refine store_rows rfl 44 _ _ rfl intl_one w0 w7 [] _ 147 4 g 1 1 [.string s,.slice ta2 (ns.length + 1) tc2,fv,ov] HQ7.out HT7.out 2 (by decide) (by rfl) (.slice xa (fr.length + 1) xc) (by rfl) rfl ?_; intro w8 HQ HT hk; have HR8:=lH (rs_from (p:=p) HQ HT); have HR8t:Hid (Rw.Rows w8 w0.heap.size ([_,_,_] ++ ⟨3,1,ov,to.length,to.map (fun i:Nat => Value.int .i64 (i:Int))⟩ :: _)):=lH (by have h:=HR8.out.rows; rw [rr_to] at h; exact h); have k8:=HR8.out.cells.2.2.2.1; clear HQ HT hk)
     | (at_builtin; refine app_rows elemT rfl _ _ (by rfl) w0 w8 _ rfl [_,_,_] _ ov to.length (to.map (fun i:Nat => Value.int .i64 (i:Int))) (by rfl) HR8t.out HR8.out.since #[.int .i64 ((p:Int) + (k:Int) + (n:Int))] 1 1 (by rfl) rfl (by intro v hv; simp at hv; subst hv; rfl) HB7.out HB8.out ?_; intro ov2 w9 HQ HT hk; obtain ⟨ya,yc,rfl⟩:∃ A c,ov2 = .slice A (to.length + 1) c:=own_any HQ.get; have HQ9:=lH HQ; have HT9:=lH HT; clear HQ HT hk k8)
     | (refine at_store (ty:=44) rfl ?_; refine store_rows rfl 44 _ _ rfl intl_one w0 w9 [] _ 147 4 g 1 1 [.string s,.slice ta2 (ns.length + 1) tc2,.slice xa (fr.length + 1) xc,ov] HQ9.out HT9.out 3 (by decide) (by rfl) (.slice ya (to.length + 1) yc) (by rfl) rfl ?_; intro w10 HQ HT hk; have HR10:=lH (rs_to (p:=p + k + n) (q:=(p:Int) + (k:Int) + (n:Int)) (by omega) HQ HT); have HHD:=hd_s HR10; have m2:=HHD.2.2.2.2.1; have hf:=lone_heap (HR10.out.others.own (lone 65 W.heap.size [.int .i64 0,.int .i64 0]) (by simp)); clear HQ HT hk HHD))
   go_loopw [17] (fun a wr => ∃ (P:Nat) (G:F) (tv fv ov:Value) (NS:List (Nd × Value)) (FR TO:List Nat),a = .int .i64 (P:Int) /\ Hid (p + k <= P /\ P <= p + k + n) /\ Hid (RS w0 g s tv fv ov NS FR TO (lone 126 w1.heap.size [.int .i64 c,.int .i64 t,.bool true,.int .i64 (n:Int)] :: lone 65 W.heap.size [.int .i64 0,.int .i64 0] :: X) wr) /\ Hid (LM s (ns.map Prod.fst) c t (fr ++ [p]) (to ++ [p + k + n]) (p + k) (p + k + n) deep P G NS FR TO)) (fun a _ => p + k + n - (intOf a).toNat)
   case atStart => exact ⟨p + k,.nil,_,_,_,_,_,_,by simp,lH (by omega),HR10,lH (lm_new rfl HK.out HN.out)⟩
   case round =>
     clear HR10 m2 hf;obtain ⟨P,G,tv,fv,ov,NS,FR,TO,rfl,HP,HR,HL⟩:=hrel
     by_cases hlt:P < p + k + n
     · have u1:decide ((P:Int) < (p:Int) + (k:Int) + (n:Int)) = true:=decide_eq_true (by omega);obtain ⟨nd,kv,hnd,hnk⟩:=HL.out.node;have hlen:=HL.out.len;have hfew:=HL.out.few;rw [List.length_map] at hlen hfew hnd;obtain ⟨gt,ct,rfl,-,-⟩:=own_form HR.out.tvo (by omega);have z1:=HR.out.cells.2.1;have z2:=((own_cells HR.out.tvo).2.2 (ns.length * 5 + 4) kv (nc_at NS _ _ hnd 4 kv rfl)).1;have hlg2:=HR.out.lt;have hlt2:gt < wr.heap.size:=(own_cells HR.out.tvo).2.1;have hne:=lH HR.out.far;have HK1:=lH (fun W' (h:Hid (RS w0 g s (.slice (some ⟨gt,0,none⟩) NS.length ct) fv ov NS FR TO (lone 126 w1.heap.size [.int .i64 c,.int .i64 t,.bool true,.int .i64 (n:Int)] :: lone 65 W.heap.size [.int .i64 0,.int .i64 0] :: X) W')) => h.out.kid hnd);have HND:=lH hnd;have HCS:=lH (fun W' (h:Hid (RS w0 g s (.slice (some ⟨gt,0,none⟩) NS.length ct) fv ov NS FR TO (lone 126 w1.heap.size [.int .i64 c,.int .i64 t,.bool true,.int .i64 (n:Int)] :: lone 65 W.heap.size [.int .i64 0,.int .i64 0] :: X) W')) => (⟨h.out.cells.2.1,((own_cells h.out.tvo).2.2 (ns.length * 5 + 4) kv (nc_at NS _ _ hnd 4 kv rfl)).1⟩:W'.cell? ⟨g,1,none⟩ = some (.slice (some ⟨gt,0,none⟩) NS.length ct) /\ W'.cell? ⟨gt,ns.length * 5 + 4,none⟩ = some kv));have HB1:Hid (nd.k.length + 1 <= maxLen):=lH (by unfold maxLen; omega);have HB2:Hid ((nd.k.length + 1) * 8 <= 140737488355328):=lH (by omega);have HL1:=lH hlen;have HL2:=lH hfew;have v1:(0:Int) <= (ns.length:Int):=by omega
       have v2:(ns.length:Int) < (NS.length:Int):=by omega
       have v3:ns.length < NS.length:=by omega
       clear hnd hnk hlen hfew;go_wp2_with fail;refine RegW.start (fun W' => W'.cell? ⟨g,1,none⟩ = some (.slice (some ⟨gt,0,none⟩) NS.length ct) /\ W'.cell? ⟨gt,ns.length * 5 + 4,none⟩ = some kv) 22 (by kernel_rfl) (HCS.out _ (rsD HR)) (fun hHeld => ?_);refine RegW.tk 0 rfl ?_;try simp only [RegW.p]
       refine RegW.tk 1 rfl ?_;try simp only [RegW.p]
       refine RegW.tk 2 rfl ?_;try simp only [RegW.p]
       refine RegW.tk 3 rfl ?_;try simp only [RegW.p]
       refine RegW.tk 4 rfl ?_;try simp only [RegW.p]
       refine RegW.tk 5 rfl ?_;try simp only [RegW.p]
       refine RegW.tk 6 rfl ?_;try simp only [RegW.p]
       refine RegW.tk 7 rfl ?_;try simp only [RegW.p]
       refine RegW.tk 8 rfl ?_;try simp only [RegW.p]
       refine RegW.tk 9 rfl ?_;try simp only [RegW.p]
       refine RegW.tk 10 rfl ?_;try simp only [RegW.p]
       refine RegW.tk 11 rfl ?_;try simp only [RegW.p]
       refine RegW.tk 12 rfl ?_;try simp only [RegW.p]
       refine RegW.tk 13 rfl ?_;try simp only [RegW.p]
       refine RegW.tk 14 rfl ?_;try simp only [RegW.p]
       refine RegW.tk 15 rfl ?_;try simp only [RegW.p]
       refine RegW.tk 16 rfl ?_;try simp only [RegW.p]
       refine RegW.tk 17 rfl ?_;try simp only [RegW.p]
       refine RegW.only (i:=18) rfl (by kernel_rfl) (fun K hK => ?_);go_simp;refine hK.out _ _ (HCS.out _ (rsA _ (rsD HR))) (fun hHeld => ?_);clear hK K;try simp only [RegW.p]
       refine RegW.only (i:=19) rfl (by kernel_rfl) (fun K hK => ?_);refine step_rows elemT rfl _ _ (by rfl) w0 _ (kidA g s (.slice (some ⟨gt,0,none⟩) NS.length ct) fv ov NS FR TO ns.length) (kidB NS _ ns.length) kv nd.k.length (nd.k.map (Value.int .i64)) (by rfl) (HK1.out _ (rsA _ (rsD HR))) (rsA _ (rsD HR)).out.since wr.heap.size [.int .i64 (NS.length:Int)] 1 1 (by rfl) (fun j u hj => alloc_cell_at _ _ _ wr.heap.size (by first | rfl | simp) j u hj) rfl (by decide) (by intro u hu; simp at hu; subst hu; rfl) HB1.out HB2.out ?_;intro kv2 w6 HQ HT;obtain ⟨ka,kc,rfl⟩:∃ A c,kv2 = .slice A (nd.k.length + 1) c:=own_any HQ.get;have HQ6:=lH (kid_more HND.out HQ);have HT6:=lH HT;have k1:=(lone_cell (HQ6.out.own (lone 147 g [.string s,.slice (some ⟨gt,0,none⟩) NS.length ct,fv,ov]) (by simp)) 1 _ rfl).1;have k2:=(own_cells HQ6.out.get).2.2 (ns.length * 5 + 4) kv (nc_at NS _ _ HND.out 4 kv rfl);have k3:=k2.2;replace k2:=k2.1;clear HQ HT;refine hK.out _ _ (⟨k1,k2⟩) (fun hHeld => ?_);clear hK K;try simp only [RegW.p]
       refine RegW.only (i:=20) rfl (by kernel_rfl) (fun K hK => ?_);go_simp;refine hK.out _ _ (hHeld) (fun hHeld => ?_);clear hK K;try simp only [RegW.p]
       refine RegW.only (i:=21) rfl (by kernel_rfl) (fun K hK => ?_);go_simp;refine hK.out _ _ (hHeld) (fun hHeld => ?_);clear hK K;try simp only [RegW.p]
       have hrun:(storeVar 44 ⟨gt,ns.length * 5 + 4,none⟩ (.slice ka (nd.k.length + 1) kc)).run Tryz.prog w6 = .ok () (w6.setCell ⟨gt,ns.length * 5 + 4,none⟩ (.slice ka (nd.k.length + 1) kc)):=by simp [storeVar,go_sem,k2,k3]
       refine RegW.last rfl (by kernel_rfl) (by kernel_rfl) (RegW.put1 rfl _ _ _ rfl _ _ (by rfl) (by rfl) hrun ?_);clear hHeld hrun
       all_goals
         have HR7:=lH (kid_set rfl v3 HQ6.out HT6.out);clear HQ6 HT6 k1 k2 k3 z1 z2 HK1 hne hlt2 hlg2;generalize w6.setCell ⟨gt,ns.length * 5 + 4,none⟩ (.slice ka (nd.k.length + 1) kc) = W7 at HR7 ⊢;go_wp2_with fail;have hcall:=HIH.out w0 g s _ _ _ _ FR TO _ W7 P (p + k + n) (deep + 1) (by have:=HM.out; have:=HKP.out; have:=HF.out; have:=HP.out; omega) (by omega) (by have:=HF.out; have:=HI3.out; omega) HSZ.out (by have:=HD16.out; omega) HR7.out (by have h:=HL.out.klA (NS.length:Int) (.slice ka (nd.k.length + 1) kc); rw [List.length_map] at h; exact h)
           (by rw [addV_len]; exact HL.out.lenF (by rw [List.length_append,List.length_map,HFR.out]; rfl)) (by rw [addV_len]; exact HL.out.lenT (by rw [List.length_append,List.length_map,HTO.out]; rfl)) (by rw [addV_len]; have:=HL1.out; have:=HL2.out; omega)
         rw [show ((p + k + n:Nat):Int) = (p:Int) + (k:Int) + (n:Int) by omega,show ((deep + 1:Nat):Int) = (deep:Int) + 1 by omega] at hcall;unfold ElAt at hcall;rw [addV_len] at hcall;cases h1:one Strs.rightB s P (p + k + n) (deep + 1) NS.length with
         | error y =>
           obtain ⟨a,q⟩:=y;rw [h1] at hcall;have HQ:=lH (fun x W' h => HE.out a q x W' (HL.out.err hlt h1) h);have ha:((a:Int) != 0) = true:=by have:=one_err (by have:=HF.out; have:=HI3.out; omega) h1; rw [bne_iff_ne]; omega
           refine (show Calls _ _ _ _ (ElErr w0 _ _ _) from hcall).mono ?_;rintro x w9 ⟨rfl,hX,hS9⟩;have HX9:=lH (hX.alloc (.cells (F2 (a:Int) (q:Int)) 65));have HS9:=lH (hS9.alloc (.cells (F2 (a:Int) (q:Int)) 65));have hf:=lone_heap (HX9.out.own (lone 65 W.heap.size [.int .i64 0,.int .i64 0]) (by simp));clear hcall h1 hX hS9 HR7 HL HR HND;unfold F2 at HX9 HS9 hf ⊢;go_wp2_with fail;have HX10:=lH (HX9.out.since (Since.drew (Since.refl _)));have HS10:=lH (HS9.out.drew);have hf10:=lone_heap (HX10.out.own (lone 65 W.heap.size [.int .i64 0,.int .i64 0]) (by simp));clear hf HX9 HS9;refine RegW.start (fun W' => W' = (w9.alloc (.cells #[.int .i64 (a:Int),.int .i64 (q:Int)] 65)).drew) 2 (by kernel_rfl) rfl (fun hHeld => ?_);refine RegW.take (i:=0) (v:=.agg (F2 (a:Int) (q:Int))) rfl (by kernel_rfl) (by kernel_rfl) (by kernel_rfl) (by kernel_rfl) (fun _ _ _ h => h) (Or.inl ⟨by rfl, ?_⟩) rfl ?_
           · intro w hSw;subst hSw;unfold F2;go_simp
             try with_reducible rfl
           try simp only [RegW.p]
           refine RegW.take (i:=1) (v:=?_) rfl (by kernel_rfl) (by kernel_rfl) (by kernel_rfl) (by kernel_rfl) (fun _ _ _ h => h) (Or.inl ⟨by rfl, ?_⟩) rfl ?_;rotate_left
           · intro w hSw;clear hSw;go_simp
             try with_reducible rfl
           try simp only [RegW.p]
           refine RegW.last rfl (by kernel_rfl) (by kernel_rfl) ?_;refine wpList_store_row rfl 65 _ _ rfl W.heap.size (F2 (a:Int) (q:Int)) (by rfl) (by rfl) _ _ hf10 (f2_info _ _) rfl (f2_one _ _) ?_;go_wp2_with fail;exact bodyPost_ret (v:=.tuple #[.int .i64 0,.agg (F2 (a:Int) (q:Int))]) (results_t_cell Tryz.results139 _ _ _ _ _ _ _ _ rfl rfl (setRow_heap _ _ _ _ _ _ hf10) Tryz.underlying65 rfl (f2_info _ _)) rfl (HQ.out _ _ ⟨rfl,rows_setRow (rows_drop HX10.out) _,below_setRow HS10.out hwb.out _⟩)
         | ok y =>
           obtain ⟨f,q⟩:=y;rw [h1] at hcall;have ho:=one_ok (Nat.le_of_lt hlt) (by have:=HF.out; have:=HI3.out; omega) h1;refine (show Calls _ _ _ _ (ElOk w0 g s _ _ _ _ _) from hcall).mono ?_;rintro x w9 ⟨tv2,fv2,ov2,NS2,rfl,hR9,hN9,hK9⟩;have HR9:=lH hR9;have HL9:=lH (HL.out.next hlt (by have:=HF.out; have:=HI3.out; omega) h1 (by rw [List.length_map]; exact hN9) hK9);have ho1:=ho.lo;have ho2:=ho.hi;clear hcall h1 hR9 hN9 hK9 HR7 HL HR HND ho;unfold F2;go_wp2_with fail;go_roundw
           case rel => exact ⟨q,G.app f,_,_,_,_,_,_,rfl,lH (by have:=HP.out; omega),rsA _ HR9,HL9⟩
           case measure => simp [intOf]; omega
     · have u1:decide ((P:Int) < (p:Int) + (k:Int) + (n:Int)) = false:=decide_eq_false (by omega);have hf:=lone_heap (HR.out.others.own (lone 65 W.heap.size [.int .i64 0,.int .i64 0]) (by simp));have hfin:=HL.out.fin hlt;have HQ:=lH (fun x W' tv' fv' ov' hr hx => HO.out G P NS FR TO tv' fv' ov' W' x hfin HL.out hr hx);clear hfin;go_wp2_with (refine wpList_store_row rfl 65 _ _ rfl W.heap.size (F2 0 0) (by rfl) (by rfl) _ _ hf (f2_info 0 0) rfl (f2_one 0 0) ?_)
       have hself:wr.setRow W.heap.size (F2 0 0) = wr:=setRow_self _ _ _ _ _ hf;rw [hself];exact bodyPost_ret (v:=.tuple #[.int .i64 ((p:Int) + (k:Int) + (n:Int)),.agg (F2 0 0)]) (results_t_cell Tryz.results139 _ _ _ _ _ _ _ _ rfl rfl hf Tryz.underlying65 rfl (f2_info 0 0)) rfl (HQ.out _ _ _ _ _ HR.out.pop.pop rfl)
end
end Tlv
end Go.Proofs.YtpanhhjkecebkaaGreat
