import Derived.Test.YtpanhhjkecebkaaGreatPt43
set_option maxRecDepth 100000
namespace Go.Proofs.YtpanhhjkecebkaaGreat
open Go.RowKit
namespace Tlv
open Span Flt Rw
section
variable (w0:World) (g:Nat) (s:ByteArray) (fv ov:Value) (ns:List (Nd × Value)) (fr to:List Nat) (X:List Row) (W:World) (p e k n deep:Nat) (c t:Int) (Q:Ending -> World -> Prop)
set_option maxHeartbeats 4000000 in
theorem el_cons_16 (m:Nat) (IH:ElAll m) (tA:Option Addr) (tc:Nat) (hRS:RS w0 g s (.slice tA ns.length tc) fv ov ns fr to X W) (hKL:KL ns) (hn:ns.length <= 999) (hfr:fr.length = ns.length) (hto:to.length = ns.length) (i2:p <= e) (i3:e <= s.size) (hs:s.size <= 65535) (D:ByteArray) (hD:s.extract p e = D) (hkp:1 <= k) (i5:k <= 100) (hf:p + k + n <= e) (hd:deep <= 16) (hm:e - p < m + 1)
   (ht1:(t != 16) = false) (c1:Mak 93 #[.string D] (.tuple #[.agg #[.int .i64 0,.int .i64 t,.bool true,.int .i64 (n:Int)],.int .i64 (k:Int),.int .i64 0]))
   (hE:∀ (a q:Nat) x W',decA Strs.rightB s (p + k) (p + k + n) (deep + 1) ((ns.map Prod.fst).length + 1) = .error (a,q) -> ElErr w0 X (a:Int) (q:Int) x W' -> Q x W')
   (hO:∀ (G:F) P NS FR TO (tv fv ov:Value) W' x,decA Strs.rightB s (p + k) (p + k + n) (deep + 1) ((ns.map Prod.fst).length + 1) = .ok G -> LM s (ns.map Prod.fst) 0 t (fr ++ [p]) (to ++ [p + k + n]) (p + k) (p + k + n) deep P G NS FR TO -> RS w0 g s tv fv ov NS FR TO X W' -> x = .returned (.tuple #[.int .i64 ((p:Int) + (k:Int) + (n:Int)),.agg (F2 0 0)]) -> Q x W') :
   Calls Tryz.prog 139 #[.pointer (some ⟨g,0,none⟩),.int .i64 (p:Int),.int .i64 (e:Int),.int .i64 (deep:Int)] W Q:=by
 have hw1:IntKind.i64.wrap ((p:Int) + (k:Int)) = (p:Int) + (k:Int):=IntWalk.i64_in _ (by omega);have hw2:IntKind.i64.wrap ((p:Int) + (k:Int) + (n:Int)) = (p:Int) + (k:Int) + (n:Int):=IntWalk.i64_in _ (by omega);have hw3:IntKind.i64.wrap ((deep:Int) + 1) = (deep:Int) + 1:=IntWalk.i64_in _ (by omega);have t1:decide ((e:Int) < (p:Int) + (k:Int) + (n:Int)) = false:=decide_eq_false (by omega);have t2:decide ((16:Int) < (deep:Int)) = false:=decide_eq_false (by omega);have t3:decide ((1000:Int) <= (ns.length:Int)) = false:=decide_eq_false (by omega);have t4:decide (1000 <= ns.length) = false:=decide_eq_false (by omega);have t5:decide (16 < deep) = false:=decide_eq_false (by omega);have j0:(p:Int) <= (e:Int):=by omega
 have j1:(e:Int) <= (s.size:Int):=by omega
 have HB3:Hid (ns.length + 1 <= maxLen):=lH (by unfold maxLen; omega);have HB4:Hid ((ns.length + 1) * 64 <= 140737488355328):=lH (by omega);have HB5:Hid (fr.length + 1 <= maxLen):=lH (by unfold maxLen; omega);have HB6:Hid ((fr.length + 1) * 8 <= 140737488355328):=lH (by omega);have HB7:Hid (to.length + 1 <= maxLen):=lH (by unfold maxLen; omega);have HB8:Hid ((to.length + 1) * 8 <= 140737488355328):=lH (by omega);have HK:=lH hKL;have HN:=lH hn;have HFR:=lH hfr;have HTO:=lH hto;have HIH:=lH IH;have HM:=lH hm;have HKP:=lH hkp;have HE:=lH hE;have HO:=lH hO;have HF:=lH hf;have HI3:=lH i3;have HSZ:=lH hs;have HD16:=lH hd;subst hD;clear i2 i3 hs hf hd hKL hfr hto hn IH hm hkp hE hO i5;have HRS:=lH (hRS.push [.int .i64 0,.int .i64 0] 65);obtain ⟨z0,-,-,-,-⟩:=HRS.out.cells;have hwb:=lH (Below.size hRS.since);clear hRS
 go_enter Tryz.func139,Tryz.ntmps139
 go_wp2_with fail;refine c1.calls0 ?_;intro w1 h1;have HR1:=lH ((HRS.out.step h1).push [.int .i64 0,.int .i64 t,.bool true,.int .i64 (n:Int)] 126);clear h1 z0;obtain ⟨-,z0,m0,m1,m2,m3⟩:=hd_s HR1;have z1:=HR1.out.cells.2.1;go_wp2_with fail
 go_quiet (fail)
 have HR3:=rsS (belowQ _ nq) HR1;generalize (w1.alloc (.cells #[.int .i64 0,.int .i64 t,.bool true,.int .i64 (n:Int)] 126)).drewN nq = W4 at HR3 ⊢;clear z0 z1 m0 m1 m2 m3 HR1 HRS;obtain ⟨-,z0,m0,m1,m2,m3⟩:=hd_s HR3;have z1:=HR3.out.cells.2.1;have hl1:=HR3.out.lt;have hl2:=HR3.out.ltX;have HR4:=lH (HR3.out.push [.int .i64 0,.int .i64 t,.bool true,.string ⟨#[]⟩,.slice none 0 0] 87);go_wp2_with fail;have hlg:=hl1;clear z0 z1 m0 m1 m2 m3 HR3 hl1 hl2;obtain ⟨-,z1,n0,n1,n2,n3,n4⟩:=en_s HR4;refine RegW.start (fun W' => W'.cell? ⟨g,1,none⟩ = some (.slice tA ns.length tc) /\ W'.cell? ⟨W4.heap.size,0,none⟩ = some (.int .i64 0) /\ W'.cell? ⟨W4.heap.size,1,none⟩ = some (.int .i64 t) /\ W'.cell? ⟨W4.heap.size,2,none⟩ = some (.bool true) /\ W'.cell? ⟨W4.heap.size,3,none⟩ = some (.string ⟨#[]⟩) /\ W'.cell? ⟨W4.heap.size,4,none⟩ = some (.slice none 0 0)) 10 (by kernel_rfl) ((en_s (rsD HR4)).2) (fun hHeld => ?_);refine RegW.tk 0 rfl ?_;try simp only [RegW.p]
 refine RegW.tk 1 rfl ?_;try simp only [RegW.p]
 refine RegW.tk 2 rfl ?_;try simp only [RegW.p]
 refine RegW.tk 3 rfl ?_;try simp only [RegW.p]
 refine RegW.tk 4 rfl ?_;try simp only [RegW.p]
 refine RegW.tk 5 rfl ?_;try simp only [RegW.p]
 refine RegW.only (i:=6) rfl (by kernel_rfl) (fun K hK => ?_);go_simp;refine hK.out _ _ ((en_s (rsA _ (rsD HR4))).2) (fun hHeld => ?_);clear hK K;try simp only [RegW.p]
 refine RegW.only (i:=7) rfl (by kernel_rfl) (fun K hK => ?_);refine step_rows elemN rfl _ _ (by rfl) w0 _ [_] _ (.slice tA ns.length tc) ns.length (ns.flatMap nc) (by rfl) (rsA _ (rsD HR4)).out.rows (rsA _ (rsD HR4)).out.since (W4.heap.size + 1) [.int .i64 0,.int .i64 t,.bool true,.string ⟨#[]⟩,.slice none 0 0] 1 1 (by rfl) (fun j u hj => alloc_cell_at _ _ _ (W4.heap.size + 1) (by first | rfl | simp) j u hj) rfl (by decide) (by intro u hu; simp at hu; rcases hu with rfl | rfl | rfl | rfl | rfl <;> rfl) HB3.out HB4.out ?_;intro tv2 w6 HQ HT;obtain ⟨ta2,tc2,rfl⟩:∃ A c,tv2 = .slice A (ns.length + 1) c:=own_any HQ.get;have k1:=(lone_cell (HQ.own (lone 147 g [.string s,.slice tA ns.length tc,fv,ov]) (by simp)) 1 _ rfl)
 have k2:=k1.2;have k3:=HQ.own (lone 87 W4.heap.size [.int .i64 0,.int .i64 t,.bool true,.string ⟨#[]⟩,.slice none 0 0]) (by first | simp | (unfold RR; simp));have hS6:w6.cell? ⟨g,1,none⟩ = some (.slice tA ns.length tc) /\ w6.cell? ⟨W4.heap.size,0,none⟩ = some (.int .i64 0) /\ w6.cell? ⟨W4.heap.size,1,none⟩ = some (.int .i64 t) /\ w6.cell? ⟨W4.heap.size,2,none⟩ = some (.bool true) /\ w6.cell? ⟨W4.heap.size,3,none⟩ = some (.string ⟨#[]⟩) /\ w6.cell? ⟨W4.heap.size,4,none⟩ = some (.slice none 0 0):=⟨k1.1,(lone_cell k3 0 _ rfl).1,(lone_cell k3 1 _ rfl).1,(lone_cell k3 2 _ rfl).1,(lone_cell k3 3 _ rfl).1,(lone_cell k3 4 _ rfl).1⟩
 replace k1:=k1.1;have HQ6:=lH HQ;have HT6:=lH HT;clear HQ HT k3;refine hK.out _ _ ?_ (fun hHeld => ?_)
 · exact hS6
 clear hK K;try simp only [RegW.p]
 refine RegW.only (i:=8) rfl (by kernel_rfl) (fun K hK => ?_);go_simp;refine hK.out _ _ (hHeld) (fun hHeld => ?_);clear hK K;try simp only [RegW.p]
 refine RegW.only (i:=9) rfl (by kernel_rfl) (fun K hK => ?_);go_simp;refine hK.out _ _ (hHeld) (fun hHeld => ?_);clear hK K;try simp only [RegW.p]
 have hrun:(storeVar 74 ⟨g,1,none⟩ (.slice ta2 (ns.length + 1) tc2)).run Tryz.prog w6 = .ok () (w6.setCell ⟨g,1,none⟩ (.slice ta2 (ns.length + 1) tc2)):=by simp [storeVar,go_sem,k1,k2]
 refine RegW.last rfl (by kernel_rfl) (by kernel_rfl) (RegW.put1 rfl _ _ _ rfl _ _ (by rfl) (by rfl) hrun ?_);clear hrun
 all_goals
   have HR6:=lH (RS.pop (rs_node HQ6.out HT6.out));generalize w6.setCell ⟨g,1,none⟩ (.slice ta2 (ns.length + 1) tc2) = W6 at HR6 ⊢;have HR6f:Hid (Rw.Rows W6 w0.heap.size ([_,_] ++ ⟨3,1,fv,fr.length,fr.map (fun i:Nat => Value.int .i64 (i:Int))⟩ :: _)):=lH (by have h:=HR6.out.rows; rw [rr_from] at h; exact h);have k7:=HR6.out.cells.2.2.1;clear z1 n0 n1 n2 n3 n4 k1 k2 hS6 hHeld HQ6 HT6 HR4;go_wp2_with (first
     | (at_builtin; refine app_rows elemT rfl _ _ (by rfl) w0 W6 _ rfl [_,_] _ fv fr.length (fr.map (fun i:Nat => Value.int .i64 (i:Int))) (by rfl) HR6f.out HR6.out.since #[.int .i64 (p:Int)] 1 1 (by rfl) rfl (by intro v hv; simp at hv; subst hv; rfl) HB5.out HB6.out ?_; intro fv2 w7 HQ HT hk; obtain ⟨xa,xc,rfl⟩:∃ A c,fv2 = .slice A (fr.length + 1) c:=own_any HQ.get; have HQ7:=lH HQ; have HT7:=lH HT; clear HQ HT hk k7)
     | (refine at_store (ty:=44) rfl ?_; refine store_rows rfl 44 _ _ rfl intl_one w0 w7 [] _ 147 4 g 1 1 [.string s,.slice ta2 (ns.length + 1) tc2,fv,ov] HQ7.out HT7.out 2 (by decide) (by rfl) (.slice xa (fr.length + 1) xc) (by rfl) rfl ?_; intro w8 HQ HT hk; have HR8:=lH (rs_from (p:=p) HQ HT); have HR8t:Hid (Rw.Rows w8 w0.heap.size ([_,_,_] ++ ⟨3,1,ov,to.length,to.map (fun i:Nat => Value.int .i64 (i:Int))⟩ :: _)):=lH (by have h:=HR8.out.rows; rw [rr_to] at h; exact h); have k8:=HR8.out.cells.2.2.2.1; clear HQ HT hk)
     | (at_builtin; refine app_rows elemT rfl _ _ (by rfl) w0 w8 _ rfl [_,_,_] _ ov to.length (to.map (fun i:Nat => Value.int .i64 (i:Int))) (by rfl) HR8t.out HR8.out.since #[.int .i64 ((p:Int) + (k:Int) + (n:Int))] 1 1 (by rfl) rfl (by intro v hv; simp at hv; subst hv; rfl) HB7.out HB8.out ?_; intro ov2 w9 HQ HT hk; obtain ⟨ya,yc,rfl⟩:∃ A c,ov2 = .slice A (to.length + 1) c:=own_any HQ.get; have HQ9:=lH HQ; have HT9:=lH HT; clear HQ HT hk k8)
     | (refine at_store (ty:=44) rfl ?_; refine store_rows rfl 44 _ _ rfl intl_one w0 w9 [] _ 147 4 g 1 1 [.string s,.slice ta2 (ns.length + 1) tc2,.slice xa (fr.length + 1) xc,ov] HQ9.out HT9.out 3 (by decide) (by rfl) (.slice ya (to.length + 1) yc) (by rfl) rfl ?_; intro w10 HQ HT hk; have HR10:=lH (rs_to (p:=p + k + n) (q:=(p:Int) + (k:Int) + (n:Int)) (by omega) HQ HT); have HHD:=hd_s HR10; have m2:=HHD.2.2.2.2.1; have hf:=lone_heap (HR10.out.others.own (lone 65 W.heap.size [.int .i64 0,.int .i64 0]) (by simp)); clear HQ HT hk HHD))
   go_loopw [17] (fun a wr => ∃ (P:Nat) (G:F) (tv fv ov:Value) (NS:List (Nd × Value)) (FR TO:List Nat),a = .int .i64 (P:Int) /\ Hid (p + k <= P /\ P <= p + k + n) /\ Hid (RS w0 g s tv fv ov NS FR TO (lone 126 w1.heap.size [.int .i64 0,.int .i64 t,.bool true,.int .i64 (n:Int)] :: lone 65 W.heap.size [.int .i64 0,.int .i64 0] :: X) wr) /\ Hid (LM s (ns.map Prod.fst) 0 t (fr ++ [p]) (to ++ [p + k + n]) (p + k) (p + k + n) deep P G NS FR TO)) (fun a _ => p + k + n - (intOf a).toNat)
   case atStart => exact ⟨p + k,.nil,_,_,_,_,_,_,by simp,lH (by omega),HR10,lH (lm_new rfl HK.out HN.out)⟩
   case round =>
     clear HR10 m2 hf;obtain ⟨P,G,tv,fv,ov,NS,FR,TO,rfl,HP,HR,HL⟩:=hrel
     by_cases hlt:P < p + k + n
     · have u1:decide ((P:Int) < (p:Int) + (k:Int) + (n:Int)) = true:=decide_eq_true (by omega);obtain ⟨nd,kv,hnd,hnk⟩:=HL.out.node;have hlen:=HL.out.len;have hfew:=HL.out.few;rw [List.length_map] at hlen hfew hnd;obtain ⟨gt,ct,rfl,-,-⟩:=own_form HR.out.tvo (by omega);have z1:=HR.out.cells.2.1;have z2:=((own_cells HR.out.tvo).2.2 (ns.length * 5 + 4) kv (nc_at NS _ _ hnd 4 kv rfl)).1;have hlg2:=HR.out.lt;have hlt2:gt < wr.heap.size:=(own_cells HR.out.tvo).2.1;have hne:=lH HR.out.far;have HK1:=lH (fun W' (h:Hid (RS w0 g s (.slice (some ⟨gt,0,none⟩) NS.length ct) fv ov NS FR TO (lone 126 w1.heap.size [.int .i64 0,.int .i64 t,.bool true,.int .i64 (n:Int)] :: lone 65 W.heap.size [.int .i64 0,.int .i64 0] :: X) W')) => h.out.kid hnd);have HND:=lH hnd;have HCS:=lH (fun W' (h:Hid (RS w0 g s (.slice (some ⟨gt,0,none⟩) NS.length ct) fv ov NS FR TO (lone 126 w1.heap.size [.int .i64 0,.int .i64 t,.bool true,.int .i64 (n:Int)] :: lone 65 W.heap.size [.int .i64 0,.int .i64 0] :: X) W')) => (⟨h.out.cells.2.1,((own_cells h.out.tvo).2.2 (ns.length * 5 + 4) kv (nc_at NS _ _ hnd 4 kv rfl)).1⟩:W'.cell? ⟨g,1,none⟩ = some (.slice (some ⟨gt,0,none⟩) NS.length ct) /\ W'.cell? ⟨gt,ns.length * 5 + 4,none⟩ = some kv));have HB1:Hid (nd.k.length + 1 <= maxLen):=lH (by unfold maxLen; omega);have HB2:Hid ((nd.k.length + 1) * 8 <= 140737488355328):=lH (by omega);have HL1:=lH hlen;have HL2:=lH hfew;have v1:(0:Int) <= (ns.length:Int):=by omega
       have v2:(ns.length:Int) < (NS.length:Int):=by omega
       have v3:ns.length < NS.length:=by omega
       clear hnd hnk hlen hfew;go_wp2_with fail;refine RegW.start (fun W' => W'.cell? ⟨g,1,none⟩ = some (.slice (some ⟨gt,0,none⟩) NS.length ct) /\ W'.cell? ⟨gt,ns.length * 5 + 4,none⟩ = some kv) 22 (by kernel_rfl) (HCS.out _ (rsD HR)) (fun hHeld => ?_);refine RegW.tk 0 rfl ?_;try simp only [RegW.p]
       refine RegW.tk 1 rfl ?_;try simp only [RegW.p]
       refine RegW.tk 2 rfl ?_;try simp only [RegW.p]
       refine RegW.tk 3 rfl ?_;try simp only [RegW.p]
       refine RegW.tk 4 rfl ?_;try simp only [RegW.p]
       refine RegW.tk 5 rfl ?_;try simp only [RegW.p]
       refine RegW.tk 6 rfl ?_;try simp only [RegW.p]
       refine RegW.tk 7 rfl ?_;try simp only [RegW.p]
       refine RegW.tk 8 rfl ?_;try simp only [RegW.p]
       refine RegW.tk 9 rfl ?_;try simp only [RegW.p]
       refine RegW.tk 10 rfl ?_;try simp only [RegW.p]
       refine RegW.tk 11 rfl ?_;try simp only [RegW.p]
       refine RegW.tk 12 rfl ?_;try simp only [RegW.p]
       refine RegW.tk 13 rfl ?_;try simp only [RegW.p]
       refine RegW.tk 14 rfl ?_;try simp only [RegW.p]
       refine RegW.tk 15 rfl ?_;try simp only [RegW.p]
       refine RegW.tk 16 rfl ?_;try simp only [RegW.p]
       refine RegW.tk 17 rfl ?_;try simp only [RegW.p]
       refine RegW.only (i:=18) rfl (by kernel_rfl) (fun K hK => ?_);go_simp;refine hK.out _ _ (HCS.out _ (rsA _ (rsD HR))) (fun hHeld => ?_);clear hK K;try simp only [RegW.p]
       refine RegW.only (i:=19) rfl (by kernel_rfl) (fun K hK => ?_);refine step_rows elemT rfl _ _ (by rfl) w0 _ (kidA g s (.slice (some ⟨gt,0,none⟩) NS.length ct) fv ov NS FR TO ns.length) (kidB NS _ ns.length) kv nd.k.length (nd.k.map (Value.int .i64)) (by rfl) (HK1.out _ (rsA _ (rsD HR))) (rsA _ (rsD HR)).out.since wr.heap.size [.int .i64 (NS.length:Int)] 1 1 (by rfl) (fun j u hj => alloc_cell_at _ _ _ wr.heap.size (by first | rfl | simp) j u hj) rfl (by decide) (by intro u hu; simp at hu; subst hu; rfl) HB1.out HB2.out ?_;intro kv2 w6 HQ HT;obtain ⟨ka,kc,rfl⟩:∃ A c,kv2 = .slice A (nd.k.length + 1) c:=own_any HQ.get;have HQ6:=lH (kid_more HND.out HQ);have HT6:=lH HT;have k1:=(lone_cell (HQ6.out.own (lone 147 g [.string s,.slice (some ⟨gt,0,none⟩) NS.length ct,fv,ov]) (by simp)) 1 _ rfl).1;have k2:=(own_cells HQ6.out.get).2.2 (ns.length * 5 + 4) kv (nc_at NS _ _ HND.out 4 kv rfl);have k3:=k2.2;replace k2:=k2.1;clear HQ HT;refine hK.out _ _ (⟨k1,k2⟩) (fun hHeld => ?_);clear hK K;try simp only [RegW.p]
       refine RegW.only (i:=20) rfl (by kernel_rfl) (fun K hK => ?_);go_simp;refine hK.out _ _ (hHeld) (fun hHeld => ?_);clear hK K;try simp only [RegW.p]
       refine RegW.only (i:=21) rfl (by kernel_rfl) (fun K hK => ?_);go_simp;refine hK.out _ _ (hHeld) (fun hHeld => ?_);clear hK K;try simp only [RegW.p]
       have hrun:(storeVar 44 ⟨gt,ns.length * 5 + 4,none⟩ (.slice ka (nd.k.length + 1) kc)).run Tryz.prog w6 = .ok () (w6.setCell ⟨gt,ns.length * 5 + 4,none⟩ (.slice ka (nd.k.length + 1) kc)):=by simp [storeVar,go_sem,k2,k3]
       refine RegW.last rfl (by kernel_rfl) (by kernel_rfl) (RegW.put1 rfl _ _ _ rfl _ _ (by rfl) (by rfl) hrun ?_);clear hHeld hrun
       all_goals
         have HR7:=lH (kid_set rfl v3 HQ6.out HT6.out);clear HQ6 HT6 k1 k2 k3 z1 z2 HK1 hne hlt2 hlg2;generalize w6.setCell ⟨gt,ns.length * 5 + 4,none⟩ (.slice ka (nd.k.length + 1) kc) = W7 at HR7 ⊢;go_wp2_with fail;have hcall:=HIH.out w0 g s _ _ _ _ FR TO _ W7 P (p + k + n) (deep + 1) (by have:=HM.out; have:=HKP.out; have:=HF.out; have:=HP.out; omega) (by omega) (by have:=HF.out; have:=HI3.out; omega) HSZ.out (by have:=HD16.out; omega) HR7.out (by have h:=HL.out.klA (NS.length:Int) (.slice ka (nd.k.length + 1) kc); rw [List.length_map] at h; exact h)
           (by rw [addV_len]; exact HL.out.lenF (by rw [List.length_append,List.length_map,HFR.out]; rfl)) (by rw [addV_len]; exact HL.out.lenT (by rw [List.length_append,List.length_map,HTO.out]; rfl)) (by rw [addV_len]; have:=HL1.out; have:=HL2.out; omega)
         rw [show ((p + k + n:Nat):Int) = (p:Int) + (k:Int) + (n:Int) by omega,show ((deep + 1:Nat):Int) = (deep:Int) + 1 by omega] at hcall;unfold ElAt at hcall;rw [addV_len] at hcall;cases h1:one Strs.rightB s P (p + k + n) (deep + 1) NS.length with
         | error y =>
           obtain ⟨a,q⟩:=y;rw [h1] at hcall;have HQ:=lH (fun x W' h => HE.out a q x W' (HL.out.err hlt h1) h);have ha:((a:Int) != 0) = true:=by have:=one_err (by have:=HF.out; have:=HI3.out; omega) h1; rw [bne_iff_ne]; omega
           refine (show Calls _ _ _ _ (ElErr w0 _ _ _) from hcall).mono ?_;rintro x w9 ⟨rfl,hX,hS9⟩;have HX9:=lH (hX.alloc (.cells (F2 (a:Int) (q:Int)) 65));have HS9:=lH (hS9.alloc (.cells (F2 (a:Int) (q:Int)) 65));have hf:=lone_heap (HX9.out.own (lone 65 W.heap.size [.int .i64 0,.int .i64 0]) (by simp));clear hcall h1 hX hS9 HR7 HL HR HND;unfold F2 at HX9 HS9 hf ⊢;go_wp2_with fail;have HX10:=lH (HX9.out.since (Since.drew (Since.refl _)));have HS10:=lH (HS9.out.drew);have hf10:=lone_heap (HX10.out.own (lone 65 W.heap.size [.int .i64 0,.int .i64 0]) (by simp));clear hf HX9 HS9;refine RegW.start (fun W' => W' = (w9.alloc (.cells #[.int .i64 (a:Int),.int .i64 (q:Int)] 65)).drew) 2 (by kernel_rfl) rfl (fun hHeld => ?_);refine RegW.take (i:=0) (v:=.agg (F2 (a:Int) (q:Int))) rfl (by kernel_rfl) (by kernel_rfl) (by kernel_rfl) (by kernel_rfl) (fun _ _ _ h => h) (Or.inl ⟨by rfl, ?_⟩) rfl ?_
           · intro w hSw;subst hSw;unfold F2;go_simp
             try with_reducible rfl
           try simp only [RegW.p]
           refine RegW.take (i:=1) (v:=?_) rfl (by kernel_rfl) (by kernel_rfl) (by kernel_rfl) (by kernel_rfl) (fun _ _ _ h => h) (Or.inl ⟨by rfl, ?_⟩) rfl ?_;rotate_left
           · intro w hSw;clear hSw;go_simp
             try with_reducible rfl
           try simp only [RegW.p]
           refine RegW.last rfl (by kernel_rfl) (by kernel_rfl) ?_;refine wpList_store_row rfl 65 _ _ rfl W.heap.size (F2 (a:Int) (q:Int)) (by rfl) (by rfl) _ _ hf10 (f2_info _ _) rfl (f2_one _ _) ?_;go_wp2_with fail;exact bodyPost_ret (v:=.tuple #[.int .i64 0,.agg (F2 (a:Int) (q:Int))]) (results_t_cell Tryz.results139 _ _ _ _ _ _ _ _ rfl rfl (setRow_heap _ _ _ _ _ _ hf10) Tryz.underlying65 rfl (f2_info _ _)) rfl (HQ.out _ _ ⟨rfl,rows_setRow (rows_drop HX10.out) _,below_setRow HS10.out hwb.out _⟩)
         | ok y =>
           obtain ⟨f,q⟩:=y;rw [h1] at hcall;have ho:=one_ok (Nat.le_of_lt hlt) (by have:=HF.out; have:=HI3.out; omega) h1;refine (show Calls _ _ _ _ (ElOk w0 g s _ _ _ _ _) from hcall).mono ?_;rintro x w9 ⟨tv2,fv2,ov2,NS2,rfl,hR9,hN9,hK9⟩;have HR9:=lH hR9;have HL9:=lH (HL.out.next hlt (by have:=HF.out; have:=HI3.out; omega) h1 (by rw [List.length_map]; exact hN9) hK9);have ho1:=ho.lo;have ho2:=ho.hi;clear hcall h1 hR9 hN9 hK9 HR7 HL HR HND ho;unfold F2;go_wp2_with fail;go_roundw
           case rel => exact ⟨q,G.app f,_,_,_,_,_,_,rfl,lH (by have:=HP.out; omega),rsA _ HR9,HL9⟩
           case measure => simp [intOf]; omega
     · have u1:decide ((P:Int) < (p:Int) + (k:Int) + (n:Int)) = false:=decide_eq_false (by omega);have hf:=lone_heap (HR.out.others.own (lone 65 W.heap.size [.int .i64 0,.int .i64 0]) (by simp));have hfin:=HL.out.fin hlt;have HQ:=lH (fun x W' tv' fv' ov' hr hx => HO.out G P NS FR TO tv' fv' ov' W' x hfin HL.out hr hx);clear hfin;go_wp2_with (refine wpList_store_row rfl 65 _ _ rfl W.heap.size (F2 0 0) (by rfl) (by rfl) _ _ hf (f2_info 0 0) rfl (f2_one 0 0) ?_)
       have hself:wr.setRow W.heap.size (F2 0 0) = wr:=setRow_self _ _ _ _ _ hf;rw [hself];exact bodyPost_ret (v:=.tuple #[.int .i64 ((p:Int) + (k:Int) + (n:Int)),.agg (F2 0 0)]) (results_t_cell Tryz.results139 _ _ _ _ _ _ _ _ rfl rfl hf Tryz.underlying65 rfl (f2_info 0 0)) rfl (HQ.out _ _ _ _ _ HR.out.pop.pop rfl)
end
end Tlv
namespace Tlv
open Span Flt Rw
section
variable (w0:World) (g:Nat) (s:ByteArray) (fv ov:Value) (ns:List (Nd × Value)) (fr to:List Nat) (X:List Row) (W:World) (p e k n deep:Nat) (c t:Int) (Q:Ending -> World -> Prop)
set_option maxHeartbeats 4000000 in
theorem el_cons_17 (m:Nat) (IH:ElAll m) (tA:Option Addr) (tc:Nat) (hRS:RS w0 g s (.slice tA ns.length tc) fv ov ns fr to X W) (hKL:KL ns) (hn:ns.length <= 999) (hfr:fr.length = ns.length) (hto:to.length = ns.length) (i2:p <= e) (i3:e <= s.size) (hs:s.size <= 65535) (D:ByteArray) (hD:s.extract p e = D) (hkp:1 <= k) (i5:k <= 100) (hf:p + k + n <= e) (hd:deep <= 16) (hm:e - p < m + 1)
   (ht1:(t != 16) = true) (ht2:(t != 17) = false) (c1:Mak 93 #[.string D] (.tuple #[.agg #[.int .i64 0,.int .i64 t,.bool true,.int .i64 (n:Int)],.int .i64 (k:Int),.int .i64 0]))
   (hE:∀ (a q:Nat) x W',decA Strs.rightB s (p + k) (p + k + n) (deep + 1) ((ns.map Prod.fst).length + 1) = .error (a,q) -> ElErr w0 X (a:Int) (q:Int) x W' -> Q x W')
   (hO:∀ (G:F) P NS FR TO (tv fv ov:Value) W' x,decA Strs.rightB s (p + k) (p + k + n) (deep + 1) ((ns.map Prod.fst).length + 1) = .ok G -> LM s (ns.map Prod.fst) 0 t (fr ++ [p]) (to ++ [p + k + n]) (p + k) (p + k + n) deep P G NS FR TO -> RS w0 g s tv fv ov NS FR TO X W' -> x = .returned (.tuple #[.int .i64 ((p:Int) + (k:Int) + (n:Int)),.agg (F2 0 0)]) -> Q x W') :
   Calls Tryz.prog 139 #[.pointer (some ⟨g,0,none⟩),.int .i64 (p:Int),.int .i64 (e:Int),.int .i64 (deep:Int)] W Q:=by
 have hw1:IntKind.i64.wrap ((p:Int) + (k:Int)) = (p:Int) + (k:Int):=IntWalk.i64_in _ (by omega);have hw2:IntKind.i64.wrap ((p:Int) + (k:Int) + (n:Int)) = (p:Int) + (k:Int) + (n:Int):=IntWalk.i64_in _ (by omega);have hw3:IntKind.i64.wrap ((deep:Int) + 1) = (deep:Int) + 1:=IntWalk.i64_in _ (by omega);have t1:decide ((e:Int) < (p:Int) + (k:Int) + (n:Int)) = false:=decide_eq_false (by omega);have t2:decide ((16:Int) < (deep:Int)) = false:=decide_eq_false (by omega);have t3:decide ((1000:Int) <= (ns.length:Int)) = false:=decide_eq_false (by omega);have t4:decide (1000 <= ns.length) = false:=decide_eq_false (by omega);have t5:decide (16 < deep) = false:=decide_eq_false (by omega);have j0:(p:Int) <= (e:Int):=by omega
 have j1:(e:Int) <= (s.size:Int):=by omega
 have HB3:Hid (ns.length + 1 <= maxLen):=lH (by unfold maxLen; omega);have HB4:Hid ((ns.length + 1) * 64 <= 140737488355328):=lH (by omega);have HB5:Hid (fr.length + 1 <= maxLen):=lH (by unfold maxLen; omega);have HB6:Hid ((fr.length + 1) * 8 <= 140737488355328):=lH (by omega);have HB7:Hid (to.length + 1 <= maxLen):=lH (by unfold maxLen; omega);have HB8:Hid ((to.length + 1) * 8 <= 140737488355328):=lH (by omega);have HK:=lH hKL;have HN:=lH hn;have HFR:=lH hfr;have HTO:=lH hto;have HIH:=lH IH;have HM:=lH hm;have HKP:=lH hkp;have HE:=lH hE;have HO:=lH hO;have HF:=lH hf;have HI3:=lH i3;have HSZ:=lH hs;have HD16:=lH hd;subst hD;clear i2 i3 hs hf hd hKL hfr hto hn IH hm hkp hE hO i5;have HRS:=lH (hRS.push [.int .i64 0,.int .i64 0] 65);obtain ⟨z0,-,-,-,-⟩:=HRS.out.cells;have hwb:=lH (Below.size hRS.since);clear hRS
 go_enter Tryz.func139,Tryz.ntmps139
 go_wp2_with fail;refine c1.calls0 ?_;intro w1 h1;have HR1:=lH ((HRS.out.step h1).push [.int .i64 0,.int .i64 t,.bool true,.int .i64 (n:Int)] 126);clear h1 z0;obtain ⟨-,z0,m0,m1,m2,m3⟩:=hd_s HR1;have z1:=HR1.out.cells.2.1;go_wp2_with fail
 go_quiet (fail)
 have HR3:=rsS (belowQ _ nq) HR1;generalize (w1.alloc (.cells #[.int .i64 0,.int .i64 t,.bool true,.int .i64 (n:Int)] 126)).drewN nq = W4 at HR3 ⊢;clear z0 z1 m0 m1 m2 m3 HR1 HRS;obtain ⟨-,z0,m0,m1,m2,m3⟩:=hd_s HR3;have z1:=HR3.out.cells.2.1;have hl1:=HR3.out.lt;have hl2:=HR3.out.ltX;have HR4:=lH (HR3.out.push [.int .i64 0,.int .i64 t,.bool true,.string ⟨#[]⟩,.slice none 0 0] 87);go_wp2_with fail;have hlg:=hl1;clear z0 z1 m0 m1 m2 m3 HR3 hl1 hl2;obtain ⟨-,z1,n0,n1,n2,n3,n4⟩:=en_s HR4;refine RegW.start (fun W' => W'.cell? ⟨g,1,none⟩ = some (.slice tA ns.length tc) /\ W'.cell? ⟨W4.heap.size,0,none⟩ = some (.int .i64 0) /\ W'.cell? ⟨W4.heap.size,1,none⟩ = some (.int .i64 t) /\ W'.cell? ⟨W4.heap.size,2,none⟩ = some (.bool true) /\ W'.cell? ⟨W4.heap.size,3,none⟩ = some (.string ⟨#[]⟩) /\ W'.cell? ⟨W4.heap.size,4,none⟩ = some (.slice none 0 0)) 10 (by kernel_rfl) ((en_s (rsD HR4)).2) (fun hHeld => ?_);refine RegW.tk 0 rfl ?_;try simp only [RegW.p]
 refine RegW.tk 1 rfl ?_;try simp only [RegW.p]
 refine RegW.tk 2 rfl ?_;try simp only [RegW.p]
 refine RegW.tk 3 rfl ?_;try simp only [RegW.p]
 refine RegW.tk 4 rfl ?_;try simp only [RegW.p]
 refine RegW.tk 5 rfl ?_;try simp only [RegW.p]
 refine RegW.only (i:=6) rfl (by kernel_rfl) (fun K hK => ?_);go_simp;refine hK.out _ _ ((en_s (rsA _ (rsD HR4))).2) (fun hHeld => ?_);clear hK K;try simp only [RegW.p]
 refine RegW.only (i:=7) rfl (by kernel_rfl) (fun K hK => ?_);refine step_rows elemN rfl _ _ (by rfl) w0 _ [_] _ (.slice tA ns.length tc) ns.length (ns.flatMap nc) (by rfl) (rsA _ (rsD HR4)).out.rows (rsA _ (rsD HR4)).out.since (W4.heap.size + 1) [.int .i64 0,.int .i64 t,.bool true,.string ⟨#[]⟩,.slice none 0 0] 1 1 (by rfl) (fun j u hj => alloc_cell_at _ _ _ (W4.heap.size + 1) (by first | rfl | simp) j u hj) rfl (by decide) (by intro u hu; simp at hu; rcases hu with rfl | rfl | rfl | rfl | rfl <;> rfl) HB3.out HB4.out ?_;intro tv2 w6 HQ HT;obtain ⟨ta2,tc2,rfl⟩:∃ A c,tv2 = .slice A (ns.length + 1) c:=own_any HQ.get;have k1:=(lone_cell (HQ.own (lone 147 g [.string s,.slice tA ns.length tc,fv,ov]) (by simp)) 1 _ rfl)
 have k2:=k1.2;have k3:=HQ.own (lone 87 W4.heap.size [.int .i64 0,.int .i64 t,.bool true,.string ⟨#[]⟩,.slice none 0 0]) (by first | simp | (unfold RR; simp));have hS6:w6.cell? ⟨g,1,none⟩ = some (.slice tA ns.length tc) /\ w6.cell? ⟨W4.heap.size,0,none⟩ = some (.int .i64 0) /\ w6.cell? ⟨W4.heap.size,1,none⟩ = some (.int .i64 t) /\ w6.cell? ⟨W4.heap.size,2,none⟩ = some (.bool true) /\ w6.cell? ⟨W4.heap.size,3,none⟩ = some (.string ⟨#[]⟩) /\ w6.cell? ⟨W4.heap.size,4,none⟩ = some (.slice none 0 0):=⟨k1.1,(lone_cell k3 0 _ rfl).1,(lone_cell k3 1 _ rfl).1,(lone_cell k3 2 _ rfl).1,(lone_cell k3 3 _ rfl).1,(lone_cell k3 4 _ rfl).1⟩
 replace k1:=k1.1;have HQ6:=lH HQ;have HT6:=lH HT;clear HQ HT k3;refine hK.out _ _ ?_ (fun hHeld => ?_)
 · exact hS6
 clear hK K;try simp only [RegW.p]
 refine RegW.only (i:=8) rfl (by kernel_rfl) (fun K hK => ?_);go_simp;refine hK.out _ _ (hHeld) (fun hHeld => ?_);clear hK K;try simp only [RegW.p]
 refine RegW.only (i:=9) rfl (by kernel_rfl) (fun K hK => ?_);go_simp;refine hK.out _ _ (hHeld) (fun hHeld => ?_);clear hK K;try simp only [RegW.p]
 have hrun:(storeVar 74 ⟨g,1,none⟩ (.slice ta2 (ns.length + 1) tc2)).run Tryz.prog w6 = .ok () (w6.setCell ⟨g,1,none⟩ (.slice ta2 (ns.length + 1) tc2)):=by simp [storeVar,go_sem,k1,k2]
 refine RegW.last rfl (by kernel_rfl) (by kernel_rfl) (RegW.put1 rfl _ _ _ rfl _ _ (by rfl) (by rfl) hrun ?_);clear hrun
 all_goals
   have HR6:=lH (RS.pop (rs_node HQ6.out HT6.out));generalize w6.setCell ⟨g,1,none⟩ (.slice ta2 (ns.length + 1) tc2) = W6 at HR6 ⊢;have HR6f:Hid (Rw.Rows W6 w0.heap.size ([_,_] ++ ⟨3,1,fv,fr.length,fr.map (fun i:Nat => Value.int .i64 (i:Int))⟩ :: _)):=lH (by have h:=HR6.out.rows; rw [rr_from] at h; exact h);have k7:=HR6.out.cells.2.2.1;clear z1 n0 n1 n2 n3 n4 k1 k2 hS6 hHeld HQ6 HT6 HR4;go_wp2_with (first
     | (at_builtin; refine app_rows elemT rfl _ _ (by rfl) w0 W6 _ rfl [_,_] _ fv fr.length (fr.map (fun i:Nat => Value.int .i64 (i:Int))) (by rfl) HR6f.out HR6.out.since #[.int .i64 (p:Int)] 1 1 (by rfl) rfl (by intro v hv; simp at hv; subst hv; rfl) HB5.out HB6.out ?_; intro fv2 w7 HQ HT hk; obtain ⟨xa,xc,rfl⟩:∃ A c,fv2 = .slice A (fr.length + 1) c:=own_any HQ.get; have HQ7:=lH HQ; have HT7:=lH HT; clear HQ HT hk k7)
     | (refine at_store (ty:=44) rfl ?_; refine store_rows rfl 44 _ _ rfl intl_one w0 w7 [] _ 147 4 g 1 1 [.string s,.slice ta2 (ns.length + 1) tc2,fv,ov] HQ7.out HT7.out 2 (by decide) (by rfl) (.slice xa (fr.length + 1) xc) (by rfl) rfl ?_; intro w8 HQ HT hk; have HR8:=lH (rs_from (p:=p) HQ HT); have HR8t:Hid (Rw.Rows w8 w0.heap.size ([_,_,_] ++ ⟨3,1,ov,to.length,to.map (fun i:Nat => Value.int .i64 (i:Int))⟩ :: _)):=lH (by have h:=HR8.out.rows; rw [rr_to] at h; exact h); have k8:=HR8.out.cells.2.2.2.1; clear HQ HT hk)
     | (at_builtin; refine app_rows elemT rfl _ _ (by rfl) w0 w8 _ rfl [_,_,_] _ ov to.length (to.map (fun i:Nat => Value.int .i64 (i:Int))) (by rfl) HR8t.out HR8.out.since #[.int .i64 ((p:Int) + (k:Int) + (n:Int))] 1 1 (by rfl) rfl (by intro v hv; simp at hv; subst hv; rfl) HB7.out HB8.out ?_; intro ov2 w9 HQ HT hk; obtain ⟨ya,yc,rfl⟩:∃ A c,ov2 = .slice A (to.length + 1) c:=own_any HQ.get; have HQ9:=lH HQ; have HT9:=lH HT; clear HQ HT hk k8)
     | (refine at_store (ty:=44) rfl ?_; refine store_rows rfl 44 _ _ rfl intl_one w0 w9 [] _ 147 4 g 1 1 [.string s,.slice ta2 (ns.length + 1) tc2,.slice xa (fr.length + 1) xc,ov] HQ9.out HT9.out 3 (by decide) (by rfl) (.slice ya (to.length + 1) yc) (by rfl) rfl ?_; intro w10 HQ HT hk; have HR10:=lH (rs_to (p:=p + k + n) (q:=(p:Int) + (k:Int) + (n:Int)) (by omega) HQ HT); have HHD:=hd_s HR10; have m2:=HHD.2.2.2.2.1; have hf:=lone_heap (HR10.out.others.own (lone 65 W.heap.size [.int .i64 0,.int .i64 0]) (by simp)); clear HQ HT hk HHD))
   go_loopw [17] (fun a wr => ∃ (P:Nat) (G:F) (tv fv ov:Value) (NS:List (Nd × Value)) (FR TO:List Nat),a = .int .i64 (P:Int) /\ Hid (p + k <= P /\ P <= p + k + n) /\ Hid (RS w0 g s tv fv ov NS FR TO (lone 126 w1.heap.size [.int .i64 0,.int .i64 t,.bool true,.int .i64 (n:Int)] :: lone 65 W.heap.size [.int .i64 0,.int .i64 0] :: X) wr) /\ Hid (LM s (ns.map Prod.fst) 0 t (fr ++ [p]) (to ++ [p + k + n]) (p + k) (p + k + n) deep P G NS FR TO)) (fun a _ => p + k + n - (intOf a).toNat)
   case atStart => exact ⟨p + k,.nil,_,_,_,_,_,_,by simp,lH (by omega),HR10,lH (lm_new rfl HK.out HN.out)⟩
   case round =>
     clear HR10 m2 hf;obtain ⟨P,G,tv,fv,ov,NS,FR,TO,rfl,HP,HR,HL⟩:=hrel
     by_cases hlt:P < p + k + n
     · have u1:decide ((P:Int) < (p:Int) + (k:Int) + (n:Int)) = true:=decide_eq_true (by omega);obtain ⟨nd,kv,hnd,hnk⟩:=HL.out.node;have hlen:=HL.out.len;have hfew:=HL.out.few;rw [List.length_map] at hlen hfew hnd;obtain ⟨gt,ct,rfl,-,-⟩:=own_form HR.out.tvo (by omega);have z1:=HR.out.cells.2.1;have z2:=((own_cells HR.out.tvo).2.2 (ns.length * 5 + 4) kv (nc_at NS _ _ hnd 4 kv rfl)).1;have hlg2:=HR.out.lt;have hlt2:gt < wr.heap.size:=(own_cells HR.out.tvo).2.1;have hne:=lH HR.out.far;have HK1:=lH (fun W' (h:Hid (RS w0 g s (.slice (some ⟨gt,0,none⟩) NS.length ct) fv ov NS FR TO (lone 126 w1.heap.size [.int .i64 0,.int .i64 t,.bool true,.int .i64 (n:Int)] :: lone 65 W.heap.size [.int .i64 0,.int .i64 0] :: X) W')) => h.out.kid hnd);have HND:=lH hnd;have HCS:=lH (fun W' (h:Hid (RS w0 g s (.slice (some ⟨gt,0,none⟩) NS.length ct) fv ov NS FR TO (lone 126 w1.heap.size [.int .i64 0,.int .i64 t,.bool true,.int .i64 (n:Int)] :: lone 65 W.heap.size [.int .i64 0,.int .i64 0] :: X) W')) => (⟨h.out.cells.2.1,((own_cells h.out.tvo).2.2 (ns.length * 5 + 4) kv (nc_at NS _ _ hnd 4 kv rfl)).1⟩:W'.cell? ⟨g,1,none⟩ = some (.slice (some ⟨gt,0,none⟩) NS.length ct) /\ W'.cell? ⟨gt,ns.length * 5 + 4,none⟩ = some kv));have HB1:Hid (nd.k.length + 1 <= maxLen):=lH (by unfold maxLen; omega);have HB2:Hid ((nd.k.length + 1) * 8 <= 140737488355328):=lH (by omega);have HL1:=lH hlen;have HL2:=lH hfew;have v1:(0:Int) <= (ns.length:Int):=by omega
       have v2:(ns.length:Int) < (NS.length:Int):=by omega
       have v3:ns.length < NS.length:=by omega
       clear hnd hnk hlen hfew;go_wp2_with fail;refine RegW.start (fun W' => W'.cell? ⟨g,1,none⟩ = some (.slice (some ⟨gt,0,none⟩) NS.length ct) /\ W'.cell? ⟨gt,ns.length * 5 + 4,none⟩ = some kv) 22 (by kernel_rfl) (HCS.out _ (rsD HR)) (fun hHeld => ?_);refine RegW.tk 0 rfl ?_;try simp only [RegW.p]
       refine RegW.tk 1 rfl ?_;try simp only [RegW.p]
       refine RegW.tk 2 rfl ?_;try simp only [RegW.p]
       refine RegW.tk 3 rfl ?_;try simp only [RegW.p]
       refine RegW.tk 4 rfl ?_;try simp only [RegW.p]
       refine RegW.tk 5 rfl ?_;try simp only [RegW.p]
       refine RegW.tk 6 rfl ?_;try simp only [RegW.p]
       refine RegW.tk 7 rfl ?_;try simp only [RegW.p]
       refine RegW.tk 8 rfl ?_;try simp only [RegW.p]
       refine RegW.tk 9 rfl ?_;try simp only [RegW.p]
       refine RegW.tk 10 rfl ?_;try simp only [RegW.p]
       refine RegW.tk 11 rfl ?_;try simp only [RegW.p]
       refine RegW.tk 12 rfl ?_;try simp only [RegW.p]
       refine RegW.tk 13 rfl ?_;try simp only [RegW.p]
       refine RegW.tk 14 rfl ?_;try simp only [RegW.p]
       refine RegW.tk 15 rfl ?_;try simp only [RegW.p]
       refine RegW.tk 16 rfl ?_;try simp only [RegW.p]
       refine RegW.tk 17 rfl ?_;try simp only [RegW.p]
       refine RegW.only (i:=18) rfl (by kernel_rfl) (fun K hK => ?_);go_simp;refine hK.out _ _ (HCS.out _ (rsA _ (rsD HR))) (fun hHeld => ?_);clear hK K;try simp only [RegW.p]
       refine RegW.only (i:=19) rfl (by kernel_rfl) (fun K hK => ?_);refine step_rows elemT rfl _ _ (by rfl) w0 _ (kidA g s (.slice (some ⟨gt,0,none⟩) NS.length ct) fv ov NS FR TO ns.length) (kidB NS _ ns.length) kv nd.k.length (nd.k.map (Value.int .i64)) (by rfl) (HK1.out _ (rsA _ (rsD HR))) (rsA _ (rsD HR)).out.since wr.heap.size [.int .i64 (NS.length:Int)] 1 1 (by rfl) (fun j u hj => alloc_cell_at _ _ _ wr.heap.size (by first | rfl | simp) j u hj) rfl (by decide) (by intro u hu; simp at hu; subst hu; rfl) HB1.out HB2.out ?_;intro kv2 w6 HQ HT;obtain ⟨ka,kc,rfl⟩:∃ A c,kv2 = .slice A (nd.k.length + 1) c:=own_any HQ.get;have HQ6:=lH (kid_more HND.out HQ);have HT6:=lH HT;have k1:=(lone_cell (HQ6.out.own (lone 147 g [.string s,.slice (some ⟨gt,0,none⟩) NS.length ct,fv,ov]) (by simp)) 1 _ rfl).1;have k2:=(own_cells HQ6.out.get).2.2 (ns.length * 5 + 4) kv (nc_at NS _ _ HND.out 4 kv rfl);have k3:=k2.2;replace k2:=k2.1;clear HQ HT;refine hK.out _ _ (⟨k1,k2⟩) (fun hHeld => ?_);clear hK K;try simp only [RegW.p]
       refine RegW.only (i:=20) rfl (by kernel_rfl) (fun K hK => ?_);go_simp;refine hK.out _ _ (hHeld) (fun hHeld => ?_);clear hK K;try simp only [RegW.p]
       refine RegW.only (i:=21) rfl (by kernel_rfl) (fun K hK => ?_);go_simp;refine hK.out _ _ (hHeld) (fun hHeld => ?_);clear hK K;try simp only [RegW.p]
       have hrun:(storeVar 44 ⟨gt,ns.length * 5 + 4,none⟩ (.slice ka (nd.k.length + 1) kc)).run Tryz.prog w6 = .ok () (w6.setCell ⟨gt,ns.length * 5 + 4,none⟩ (.slice ka (nd.k.length + 1) kc)):=by simp [storeVar,go_sem,k2,k3]
       refine RegW.last rfl (by kernel_rfl) (by kernel_rfl) (RegW.put1 rfl _ _ _ rfl _ _ (by rfl) (by rfl) hrun ?_);clear hHeld hrun
       all_goals
         have HR7:=lH (kid_set rfl v3 HQ6.out HT6.out);clear HQ6 HT6 k1 k2 k3 z1 z2 HK1 hne hlt2 hlg2;generalize w6.setCell ⟨gt,ns.length * 5 + 4,none⟩ (.slice ka (nd.k.length + 1) kc) = W7 at HR7 ⊢;go_wp2_with fail;have hcall:=HIH.out w0 g s _ _ _ _ FR TO _ W7 P (p + k + n) (deep + 1) (by have:=HM.out; have:=HKP.out; have:=HF.out; have:=HP.out; omega) (by omega) (by have:=HF.out; have:=HI3.out; omega) HSZ.out (by have:=HD16.out; omega) HR7.out (by have h:=HL.out.klA (NS.length:Int) (.slice ka (nd.k.length + 1) kc); rw [List.length_map] at h; exact h)
           (by rw [addV_len]; exact HL.out.lenF (by rw [List.length_append,List.length_map,HFR.out]; rfl)) (by rw [addV_len]; exact HL.out.lenT (by rw [List.length_append,List.length_map,HTO.out]; rfl)) (by rw [addV_len]; have:=HL1.out; have:=HL2.out; omega)
         rw [show ((p + k + n:Nat):Int) = (p:Int) + (k:Int) + (n:Int) by omega,show ((deep + 1:Nat):Int) = (deep:Int) + 1 by omega] at hcall;unfold ElAt at hcall;rw [addV_len] at hcall;cases h1:one Strs.rightB s P (p + k + n) (deep + 1) NS.length with
         | error y =>
           obtain ⟨a,q⟩:=y;rw [h1] at hcall;have HQ:=lH (fun x W' h => HE.out a q x W' (HL.out.err hlt h1) h);have ha:((a:Int) != 0) = true:=by have:=one_err (by have:=HF.out; have:=HI3.out; omega) h1; rw [bne_iff_ne]; omega
           refine (show Calls _ _ _ _ (ElErr w0 _ _ _) from hcall).mono ?_;rintro x w9 ⟨rfl,hX,hS9⟩;have HX9:=lH (hX.alloc (.cells (F2 (a:Int) (q:Int)) 65));have HS9:=lH (hS9.alloc (.cells (F2 (a:Int) (q:Int)) 65));have hf:=lone_heap (HX9.out.own (lone 65 W.heap.size [.int .i64 0,.int .i64 0]) (by simp));clear hcall h1 hX hS9 HR7 HL HR HND;unfold F2 at HX9 HS9 hf ⊢;go_wp2_with fail;have HX10:=lH (HX9.out.since (Since.drew (Since.refl _)));have HS10:=lH (HS9.out.drew);have hf10:=lone_heap (HX10.out.own (lone 65 W.heap.size [.int .i64 0,.int .i64 0]) (by simp));clear hf HX9 HS9;refine RegW.start (fun W' => W' = (w9.alloc (.cells #[.int .i64 (a:Int),.int .i64 (q:Int)] 65)).drew) 2 (by kernel_rfl) rfl (fun hHeld => ?_);refine RegW.take (i:=0) (v:=.agg (F2 (a:Int) (q:Int))) rfl (by kernel_rfl) (by kernel_rfl) (by kernel_rfl) (by kernel_rfl) (fun _ _ _ h => h) (Or.inl ⟨by rfl, ?_⟩) rfl ?_
           · intro w hSw;subst hSw;unfold F2;go_simp
             try with_reducible rfl
           try simp only [RegW.p]
           refine RegW.take (i:=1) (v:=?_) rfl (by kernel_rfl) (by kernel_rfl) (by kernel_rfl) (by kernel_rfl) (fun _ _ _ h => h) (Or.inl ⟨by rfl, ?_⟩) rfl ?_;rotate_left
           · intro w hSw;clear hSw;go_simp
             try with_reducible rfl
           try simp only [RegW.p]
           refine RegW.last rfl (by kernel_rfl) (by kernel_rfl) ?_;refine wpList_store_row rfl 65 _ _ rfl W.heap.size (F2 (a:Int) (q:Int)) (by rfl) (by rfl) _ _ hf10 (f2_info _ _) rfl (f2_one _ _) ?_;go_wp2_with fail;exact bodyPost_ret (v:=.tuple #[.int .i64 0,.agg (F2 (a:Int) (q:Int))]) (results_t_cell Tryz.results139 _ _ _ _ _ _ _ _ rfl rfl (setRow_heap _ _ _ _ _ _ hf10) Tryz.underlying65 rfl (f2_info _ _)) rfl (HQ.out _ _ ⟨rfl,rows_setRow (rows_drop HX10.out) _,below_setRow HS10.out hwb.out _⟩)
         | ok y =>
           obtain ⟨f,q⟩:=y;rw [h1] at hcall;have ho:=one_ok (Nat.le_of_lt hlt) (by have:=HF.out; have:=HI3.out; omega) h1;refine (show Calls _ _ _ _ (ElOk w0 g s _ _ _ _ _) from hcall).mono ?_;rintro x w9 ⟨tv2,fv2,ov2,NS2,rfl,hR9,hN9,hK9⟩;have HR9:=lH hR9;have HL9:=lH (HL.out.next hlt (by have:=HF.out; have:=HI3.out; omega) h1 (by rw [List.length_map]; exact hN9) hK9);have ho1:=ho.lo;have ho2:=ho.hi;clear hcall h1 hR9 hN9 hK9 HR7 HL HR HND ho;unfold F2;go_wp2_with fail;go_roundw
           case rel => exact ⟨q,G.app f,_,_,_,_,_,_,rfl,lH (by have:=HP.out; omega),rsA _ HR9,HL9⟩
           case measure => simp [intOf]; omega
     · have u1:decide ((P:Int) < (p:Int) + (k:Int) + (n:Int)) = false:=decide_eq_false (by omega);have hf:=lone_heap (HR.out.others.own (lone 65 W.heap.size [.int .i64 0,.int .i64 0]) (by simp));have hfin:=HL.out.fin hlt;have HQ:=lH (fun x W' tv' fv' ov' hr hx => HO.out G P NS FR TO tv' fv' ov' W' x hfin HL.out hr hx);clear hfin;go_wp2_with (refine wpList_store_row rfl 65 _ _ rfl W.heap.size (F2 0 0) (by rfl) (by rfl) _ _ hf (f2_info 0 0) rfl (f2_one 0 0) ?_)
       have hself:wr.setRow W.heap.size (F2 0 0) = wr:=setRow_self _ _ _ _ _ hf;rw [hself];exact bodyPost_ret (v:=.tuple #[.int .i64 ((p:Int) + (k:Int) + (n:Int)),.agg (F2 0 0)]) (results_t_cell Tryz.results139 _ _ _ _ _ _ _ _ rfl rfl hf Tryz.underlying65 rfl (f2_info 0 0)) rfl (HQ.out _ _ _ _ _ HR.out.pop.pop rfl)
end
end Tlv
namespace Tlv
open Span Flt Rw
section
variable {w0:World} {g:Nat} {s:ByteArray} {p e deep:Nat} {ns:List (Nd × Value)} {fr to:List Nat} {X:List Row} {W:World} {hh:Head.Hd} {k:Nat}
theorem at_bad {c:Nat} {y:Int} (hl:look Strs.rightB s p e deep ns.length = .error c) (hy:y = (c:Int)) (h:Calls Tryz.prog 139 #[.pointer (some ⟨g,0,none⟩),.int .i64 (p:Int),.int .i64 (e:Int),.int .i64 (deep:Int)] W (ElErr w0 X y (p:Int))) :
   Calls Tryz.prog 139 #[.pointer (some ⟨g,0,none⟩),.int .i64 (p:Int),.int .i64 (e:Int),.int .i64 (deep:Int)] W (ElAt w0 g s p e deep ns fr to X):=by
 subst hy;refine h.mono fun x W' h1 => ?_
 unfold ElAt one;rw [hl];exact h1
theorem at_prim (he:e <= s.size) (hl:look Strs.rightB s p e deep ns.length = .ok (hh,k)) (hb:hh.b = false) (h:Calls Tryz.prog 139 #[.pointer (some ⟨g,0,none⟩),.int .i64 (p:Int),.int .i64 (e:Int),.int .i64 (deep:Int)] W (ElOk w0 g s (ns.map Prod.fst ++ [⟨(hh.c:Int),(hh.t:Int),false,s.extract (p + k) (p + k + hh.n),[]⟩]) (fr ++ [p]) (to ++ [p + k + hh.n]) X (p + k + hh.n))) :
   Calls Tryz.prog 139 #[.pointer (some ⟨g,0,none⟩),.int .i64 (p:Int),.int .i64 (e:Int),.int .i64 (deep:Int)] W (ElAt w0 g s p e deep ns fr to X):=by
 refine h.mono fun x W' h1 => ?_
 have lk:=look_ok hl;have l1:=lk.fit;have l2:=lk.pos;have l3:=lk.len;rw [hb] at l3;have hn:(s.extract (p + k) (p + k + hh.n)).size = hh.n:=by rw [ByteArray.size_extract]; omega
 unfold ElAt one;rw [hl];dsimp only;rw [if_neg (by rw [hb]; decide)];have e3:(F.prim hh.c hh.t (s.extract (p + k) (p + k + hh.n)) .nil).spans p = [(p,p + k + hh.n)]:=by
   show [(p,p + ((Head.encL hh.c hh.t false (s.extract (p + k) (p + k + hh.n)).size).length + (s.extract (p + k) (p + k + hh.n)).size))] = _
   rw [hn,l3,Nat.add_assoc]
 dsimp only;rw [e3];exact h1
end
set_option maxHeartbeats 1000000 in
theorem el_any:∀ m,ElAll m:=by
 intro m
 induction m with
 | zero => intro w0 g s tv fv ov ns fr to X W p e deep hm; omega
 | succ m IH =>
   intro w0 g s tv fv ov ns fr to X W p e deep hm hpe he hs hdp hRS hKL hfr hto hn;obtain ⟨tA,tc,rfl⟩:∃ A c,tv = .slice A ns.length c:=own_any hRS.tvo;obtain ⟨hh,k,x,hq⟩:∃ hh k x,Head.dec (s.extract p e).data.toList = (hh,k,x):=⟨_,_,_,rfl⟩
   have hsz:(s.extract p e).size <= 65535:=by rw [ByteArray.size_extract]; omega
   have c0:=RefHead.rd_mak (s.extract p e) (by omega) _ rfl;rw [hq] at c0;have c1:Mak 93 #[.string (s.extract p e)] (.tuple #[.agg #[.int .i64 (hh.c:Int),.int .i64 (hh.t:Int),.bool hh.b,.int .i64 (hh.n:Int)],.int .i64 (k:Int),.int .i64 (x:Int)]):=c0;clear c0;have hD:s.extract (p:Int).toNat (e:Int).toNat = s.extract p e:=by rw [Int.toNat_natCast,Int.toNat_natCast]
   by_cases hx:x ≠ 0
   · refine at_bad (c:=x) (by unfold look; rw [hq]; dsimp only; rw [if_pos hx]) rfl ?_;exact el_bad w0 g s _ fv ov ns fr to X W (p:Int) (e:Int) (deep:Int) _ _ _ _ _ _ _ hRS (by omega) (by omega) (by omega) hD (by rw [bne_iff_ne]; omega) c1
   obtain rfl:x = 0:=by omega
   obtain ⟨g1,g2,g3,g4,g5⟩:=Head.enc_dec _ _ _ hq;have gl:(Head.encL hh.c hh.t hh.b hh.n).length = k:=by rw [g5,List.length_take]; omega
   have g6:=(Head.encL_len hh.c hh.t hh.b hh.n).1;have g7:=encL_two hh.c hh.t hh.b hh.n
   by_cases hf:e - p < k + hh.n
   · refine at_bad (c:=5) (by unfold look; rw [hq]; dsimp only; rw [if_neg (by omega),if_pos hf]) rfl ?_;exact el_far w0 g s _ fv ov ns fr to X W (p:Int) (e:Int) (deep:Int) _ _ _ _ _ _ hRS (by omega) (by omega) (by omega) hs hD (by omega) (by omega) (by omega) (by omega) (decide_eq_true (by omega)) c1
   have hf':p + k + hh.n <= e:=by omega
   have dfar:decide ((e:Int) < (p:Int) + (k:Int) + (hh.n:Int)) = false:=decide_eq_false (by omega)
   by_cases hd:16 < deep
   · refine at_bad (c:=6) (by unfold look; rw [hq]; dsimp only; rw [if_neg (by omega),if_neg hf,if_pos hd]) rfl ?_;exact el_deep w0 g s _ fv ov ns fr to X W (p:Int) (e:Int) (deep:Int) _ _ _ _ _ _ hRS (by omega) (by omega) (by omega) hs hD (by omega) (by omega) (by omega) (by omega) dfar (decide_eq_true (by omega)) c1
   have ddeep:decide ((16:Int) < (deep:Int)) = false:=decide_eq_false (by omega)
   by_cases hc:1000 <= ns.length
   · refine at_bad (c:=4) (by unfold look; rw [hq]; dsimp only; rw [if_neg (by omega),if_neg hf,if_neg hd,if_pos hc]) rfl ?_;exact el_many w0 g s _ fv ov ns fr to X W (p:Int) (e:Int) (deep:Int) _ _ _ _ _ _ tA tc rfl hRS (by omega) (by omega) (by omega) hs hD (by omega) (by omega) (by omega) (by omega) dfar ddeep (decide_eq_true (by omega)) c1
   have dmany:decide ((1000:Int) <= (ns.length:Int)) = false:=decide_eq_false (by omega);have hlk:look Strs.rightB s p e deep ns.length = if formB Strs.rightB hh (s.extract (p + k) (p + k + hh.n)) then .ok (hh,k) else .error 5:=by
     unfold look; rw [hq]; dsimp only; rw [if_neg (by omega),if_neg hf,if_neg hd,if_neg hc]
   have hQ:s.extract ((p:Int) + (k:Int)).toNat ((p:Int) + (k:Int) + (hh.n:Int)).toNat = s.extract (p + k) (p + k + hh.n):=by congr 1 <;> omega
   have hcons:∀ (hb:hh.b = true) (hl:look Strs.rightB s p e deep ns.length = .ok (hh,k)),
       (∀ (a q:Nat) x W',decA Strs.rightB s (p + k) (p + k + hh.n) (deep + 1) ((ns.map Prod.fst).length + 1) = .error (a,q) -> ElErr w0 X (a:Int) (q:Int) x W' -> ElAt w0 g s p e deep ns fr to X x W') /\
       (∀ (G:F) P NS FR TO (tv fv ov:Value) W' x,decA Strs.rightB s (p + k) (p + k + hh.n) (deep + 1) ((ns.map Prod.fst).length + 1) = .ok G -> LM s (ns.map Prod.fst) (hh.c:Int) (hh.t:Int) (fr ++ [p]) (to ++ [p + k + hh.n]) (p + k) (p + k + hh.n) deep P G NS FR TO -> RS w0 g s tv fv ov NS FR TO X W' -> x = .returned (.tuple #[.int .i64 ((p:Int) + (k:Int) + (hh.n:Int)),.agg (F2 0 0)]) -> ElAt w0 g s p e deep ns fr to X x W'):=fun hb hl =>
     ⟨fun a q x W' h h1 => at_err hl hb h h1,fun G P NS FR TO tv fv ov W' x h hm hr hx => at_ok he hl hb h hm hr hx⟩
   by_cases h0:hh.c = 0
   · cases hb:hh.b with
     | true =>
       rw [h0,hb] at c1
       by_cases h16:hh.t = 16
       · have hl:look Strs.rightB s p e deep ns.length = .ok (hh,k):=by rw [hlk,if_pos]; unfold formB; rw [hb,h16]; simp
         obtain ⟨hE,hO⟩:=hcons hb hl;rw [h0] at hO;exact el_cons_16 w0 g s fv ov ns fr to X W p e k hh.n deep (hh.t:Int) _ m IH tA tc hRS hKL (by omega) hfr hto hpe he hs _ rfl (by omega) (by omega) hf' (by omega) (by omega) (by rw [bne_eq_false_iff_eq]; omega) c1 hE hO
       · by_cases h17:hh.t = 17
         · have hl:look Strs.rightB s p e deep ns.length = .ok (hh,k):=by rw [hlk,if_pos]; unfold formB; rw [hb,h17]; simp
           obtain ⟨hE,hO⟩:=hcons hb hl;rw [h0] at hO;exact el_cons_17 w0 g s fv ov ns fr to X W p e k hh.n deep (hh.t:Int) _ m IH tA tc hRS hKL (by omega) hfr hto hpe he hs _ rfl (by omega) (by omega) hf' (by omega) (by omega) (by rw [bne_iff_ne]; omega) (by rw [bne_eq_false_iff_eq]; omega) c1 hE hO
         · refine at_bad (c:=5) (by rw [hlk,if_neg]; unfold formB; rw [hb]; simp [h0,h16,h17]) rfl ?_;exact el_fc w0 g s _ fv ov ns fr to X W (p:Int) (e:Int) (deep:Int) (hh.t:Int) (hh.n:Int) (k:Int) _ tA tc rfl hRS (by omega) (by omega) (by omega) hs hD (by omega) (by omega) (by omega) (by omega) dfar ddeep dmany (by rw [bne_iff_ne]; omega) (by rw [bne_iff_ne]; omega) c1
     | false =>
       rw [h0,hb] at c1;have hes:(s.extract (p + k) (p + k + hh.n)).size <= 1000000:=by rw [ByteArray.size_extract]; omega
       have c2:=Strs.rright_mak (hh.t:Int) (s.extract (p + k) (p + k + hh.n)) hes;cases hr:Strs.rightB (hh.t:Int) (s.extract (p + k) (p + k + hh.n)) with
       | true =>
         rw [hr] at c2;refine at_prim he (hh:=hh) (k:=k) (by rw [hlk,if_pos]; unfold formB; rw [hb,hr]; simp) hb ?_;rw [h0];exact el_prim_0 w0 g s fv ov ns fr to X W p e k hh.n (deep:Int) (hh.t:Int) tA tc hRS hKL (by omega) (by omega) (by omega) hpe he hs _ rfl (by omega) hf' (by omega) _ rfl c1 c2
       | false =>
         rw [hr] at c2;refine at_bad (c:=5) (by rw [hlk,if_neg]; unfold formB; rw [hb,hr]; simp [h0]) rfl ?_;exact el_fp w0 g s _ fv ov ns fr to X W (p:Int) (e:Int) (deep:Int) (hh.t:Int) (hh.n:Int) (k:Int) _ tA tc rfl hRS (by omega) (by omega) (by omega) hs hD (by omega) (by omega) (by omega) (by omega) dfar ddeep dmany _ hQ c1 c2
   · have hl:look Strs.rightB s p e deep ns.length = .ok (hh,k):=by rw [hlk,if_pos]; unfold formB; simp [h0]
     have hc0:((hh.c:Int) == 0) = false:=by rw [beq_eq_false_iff_ne]; omega
     cases hb:hh.b with
     | true =>
       rw [hb] at c1;obtain ⟨hE,hO⟩:=hcons hb hl;exact el_cons_c w0 g s fv ov ns fr to X W p e k hh.n deep (hh.c:Int) (hh.t:Int) _ m IH tA tc hRS hKL (by omega) hfr hto hpe he hs _ rfl (by omega) (by omega) hf' (by omega) (by omega) hc0 c1 hE hO
     | false =>
       rw [hb] at c1;exact at_prim he hl hb (el_prim_c w0 g s fv ov ns fr to X W p e k hh.n (deep:Int) (hh.c:Int) (hh.t:Int) tA tc hRS hKL (by omega) (by omega) (by omega) hpe he hs _ rfl (by omega) hf' (by omega) _ rfl hc0 c1)
end Tlv
namespace Tlv
open Span Flt Rw
def WErr (w:World) (c p:Int) (x:Ending) (w':World):Prop:=∃ g,x = .returned (.tuple #[.pointer (some ⟨g,0,none⟩),.agg (F2 c p)]) /\ Since w w'
def WOk (w:World) (s:ByteArray) (N:List Nd) (FR TO:List Nat) (x:Ending) (w':World):Prop:=∃ g tv fv ov ns,x = .returned (.tuple #[.pointer (some ⟨g,0,none⟩),.agg (F2 0 0)]) /\ Rw.Rows w' w.heap.size (RR g s tv fv ov ns FR TO []) /\ ns.map Prod.fst = N /\ Since w w'
theorem rs_start (w0:World) (s:ByteArray) (g:Nat) (hg:w0.heap.size = g):RS w0 g s (.slice none 0 0) (.slice none 0 0) (.slice none 0 0) [] [] [] [] (w0.alloc (.cells #[.string s,.slice none 0 0,.slice none 0 0,.slice none 0 0] 147)):=by
 subst hg;refine ⟨?_,(Since.refl w0).alloc _⟩;have h1:=((Rw.Rows.nil w0 w0.heap.size).add_nil 87 5).add_nil 3 1 |>.add_nil 3 1
 exact rows_push h1 (Nat.le_refl _) [.string s,.slice none 0 0,.slice none 0 0,.slice none 0 0] 147
theorem wh_empty (s:ByteArray) (b1:s.toList.isEmpty = true) (_b2:(!s.toList.isEmpty) = false) (w:World):Calls Tryz.prog 108 #[.string s] w (WErr w 3 0):=by
 have hr0:=lH (show HR w w.heap.size #[.int .i64 0,.int .i64 0] 65 ((w.alloc (.cells #[.int .i64 0,.int .i64 0] 65)).alloc (.cells #[.string s,.slice none 0 0,.slice none 0 0,.slice none 0 0] 147)) from hr_old ⟨heap_alloc_new w _⟩ _);have HS:=lH (((Since.refl w).alloc (.cells #[.int .i64 0,.int .i64 0] 65)).alloc (.cells #[.string s,.slice none 0 0,.slice none 0 0,.slice none 0 0] 147))
 go_enter Tryz.func108,Tryz.ntmps108
 go_wp2_with fail;refine (faulty_mak 3 0).calls0 ?_;intro w1 h1;replace hr0:=lH (hr0.out.step h1);replace HS:=lH (HS.out.step h1);have hf:=hr0.out.row;clear h1;go_wp2_with (refine wpList_store_row rfl 65 _ _ rfl w.heap.size (F2 3 0) (by rfl) (by rfl) _ _ hf (f2_info 3 0) rfl (f2_one 3 0) ?_)
 exact bodyPost_ret (v:=.tuple #[.pointer (some ⟨w.heap.size + 1,0,none⟩),.agg (F2 3 0)]) (results_t_cell Tryz.results108 _ _ _ _ _ _ _ _ rfl rfl (setRow_heap _ _ _ _ _ _ hf) Tryz.underlying65 rfl (f2_info 3 0)) rfl ⟨_,rfl,below_setRow HS.out (Nat.le_refl _) _⟩
theorem wh_long (s:ByteArray) (b1:s.toList.isEmpty = false) (_b2:(!s.toList.isEmpty) = true) (b3:decide ((65535:Int) < (s.size:Int)) = true) (w:World):Calls Tryz.prog 108 #[.string s] w (WErr w 4 0):=by
 have hr0:=lH (show HR w w.heap.size #[.int .i64 0,.int .i64 0] 65 ((w.alloc (.cells #[.int .i64 0,.int .i64 0] 65)).alloc (.cells #[.string s,.slice none 0 0,.slice none 0 0,.slice none 0 0] 147)) from hr_old ⟨heap_alloc_new w _⟩ _);have HS:=lH (((Since.refl w).alloc (.cells #[.int .i64 0,.int .i64 0] 65)).alloc (.cells #[.string s,.slice none 0 0,.slice none 0 0,.slice none 0 0] 147))
 go_enter Tryz.func108,Tryz.ntmps108
 go_wp2_with fail;refine (faulty_mak 4 0).calls0 ?_;intro w1 h1;replace hr0:=lH (hr0.out.step h1);replace HS:=lH (HS.out.step h1);have hf:=hr0.out.row;clear h1;go_wp2_with (refine wpList_store_row rfl 65 _ _ rfl w.heap.size (F2 4 0) (by rfl) (by rfl) _ _ hf (f2_info 4 0) rfl (f2_one 4 0) ?_)
 exact bodyPost_ret (v:=.tuple #[.pointer (some ⟨w.heap.size + 1,0,none⟩),.agg (F2 4 0)]) (results_t_cell Tryz.results108 _ _ _ _ _ _ _ _ rfl rfl (setRow_heap _ _ _ _ _ _ hf) Tryz.underlying65 rfl (f2_info 4 0)) rfl ⟨_,rfl,below_setRow HS.out (Nat.le_refl _) _⟩
set_option maxHeartbeats 2000000 in
theorem wh_err (s:ByteArray) (h0:0 < s.size) (h1:s.size <= 65535) (c q:Nat) (hT:one Strs.rightB s 0 s.size 1 0 = .error (c,q)) (w:World):Calls Tryz.prog 108 #[.string s] w (WErr w (c:Int) (q:Int)):=by
 have hc:=one_err (Nat.le_refl _) hT;have k1:((c:Int) == 0) = false:=by rw [beq_eq_false_iff_ne]; omega
 have hr0:=lH (show HR w w.heap.size #[.int .i64 0,.int .i64 0] 65 ((w.alloc (.cells #[.int .i64 0,.int .i64 0] 65)).alloc (.cells #[.string s,.slice none 0 0,.slice none 0 0,.slice none 0 0] 147)) from hr_old ⟨heap_alloc_new w _⟩ _);have HS:=lH (((Since.refl w).alloc (.cells #[.int .i64 0,.int .i64 0] 65)).alloc (.cells #[.string s,.slice none 0 0,.slice none 0 0,.slice none 0 0] 147));have hcall:=el_any (s.size + 1) _ (w.heap.size + 1) s _ _ _ [] [] [] [] _ 0 s.size 1 (by omega) (by omega) (by omega) h1 (by omega) (rs_start (w.alloc (.cells #[.int .i64 0,.int .i64 0] 65)) s (w.heap.size + 1) (by simp)) (by intro i x hx; cases hx) rfl rfl (by decide);have b1:=some_bytes_f s h0;have b2:=some_bytes s h0;have b3:decide ((65535:Int) < (s.size:Int)) = false:=decide_eq_false (by omega);have b4:decide (65535 < s.size) = false:=decide_eq_false (by omega);unfold ElAt at hcall;rw [List.length_nil,hT] at hcall;clear hT
 go_enter Tryz.func108,Tryz.ntmps108
 go_wp2_with fail;refine (show Calls _ _ _ _ (ElErr _ _ _ _) from hcall).mono ?_;rintro x w9 ⟨rfl,-,hS9⟩;have hs9:=Since.step ((Since.refl w).alloc (.cells #[.int .i64 0,.int .i64 0] 65)) hS9;have hr9:HR w w.heap.size #[.int .i64 0,.int .i64 0] 65 w9:=HR.step (W:=w.alloc (.cells #[.int .i64 0,.int .i64 0] 65)) ⟨heap_alloc_new w _⟩ hS9;have hf:=((hr_old hr9 (.cells (F2 (c:Int) (q:Int)) 65)).step (Since.drew (Since.refl _))).row;have HS9:=lH ((hs9.alloc (.cells (F2 (c:Int) (q:Int)) 65)).drew);clear hcall hS9 hs9 hr9 hr0 HS;unfold F2 at hf HS9 ⊢;go_wp2_with fail;refine RegW.start (fun W' => W' = (w9.alloc (.cells #[.int .i64 (c:Int),.int .i64 (q:Int)] 65)).drew) 3 (by kernel_rfl) rfl (fun hHeld => ?_);refine RegW.take (i:=0) (v:=?_) rfl (by kernel_rfl) (by kernel_rfl) (by kernel_rfl) (by kernel_rfl) (fun _ _ _ h => h) (Or.inl ⟨by rfl, ?_⟩) rfl ?_;rotate_left
 · intro w hSw;clear hSw;go_simp
   try with_reducible rfl
 try simp only [RegW.p]
 refine RegW.take (i:=1) (v:=.agg (F2 (c:Int) (q:Int))) rfl (by kernel_rfl) (by kernel_rfl) (by kernel_rfl) (by kernel_rfl) (fun _ _ _ h => h) (Or.inl ⟨by rfl, ?_⟩) rfl ?_
 · intro w hSw;subst hSw;unfold F2;go_simp
   try with_reducible rfl
 try simp only [RegW.p]
 refine RegW.take (i:=2) (v:=?_) rfl (by kernel_rfl) (by kernel_rfl) (by kernel_rfl) (by kernel_rfl) (fun _ _ _ h => h) (Or.inl ⟨by rfl, ?_⟩) rfl ?_;rotate_left
 · intro w hSw;clear hSw;go_simp
   try with_reducible rfl
 try simp only [RegW.p]
 refine RegW.last rfl (by kernel_rfl) (by kernel_rfl) ?_;refine wpList_store_row rfl 65 _ _ rfl w.heap.size (F2 (c:Int) (q:Int)) (by rfl) (by rfl) _ _ hf (f2_info _ _) rfl (f2_one _ _) ?_;go_wp2_with fail;exact bodyPost_ret (v:=.tuple #[.pointer (some ⟨w.heap.size + 1,0,none⟩),.agg (F2 (c:Int) (q:Int))]) (results_t_cell Tryz.results108 _ _ _ _ _ _ _ _ rfl rfl (setRow_heap _ _ _ _ _ _ hf) Tryz.underlying65 rfl (f2_info _ _)) rfl ⟨_,rfl,below_setRow HS9.out (Nat.le_refl _) _⟩
set_option maxHeartbeats 2000000 in
theorem wh_ok (s:ByteArray) (h0:0 < s.size) (h1:s.size <= 65535) (f:F) (q:Nat) (hT:one Strs.rightB s 0 s.size 1 0 = .ok (f,q)) (hq:¬ q < s.size) (w:World):Calls Tryz.prog 108 #[.string s] w (WOk w s (f.flat 0) ((f.spans 0).map Prod.fst) ((f.spans 0).map Prod.snd)):=by
 have k1:decide ((q:Int) < (s.size:Int)) = false:=decide_eq_false (by omega);have k2:decide (q < s.size) = false:=decide_eq_false hq;have hr0:=lH (show HR w w.heap.size #[.int .i64 0,.int .i64 0] 65 ((w.alloc (.cells #[.int .i64 0,.int .i64 0] 65)).alloc (.cells #[.string s,.slice none 0 0,.slice none 0 0,.slice none 0 0] 147)) from hr_old ⟨heap_alloc_new w _⟩ _);have HS:=lH (((Since.refl w).alloc (.cells #[.int .i64 0,.int .i64 0] 65)).alloc (.cells #[.string s,.slice none 0 0,.slice none 0 0,.slice none 0 0] 147));have hcall:=el_any (s.size + 1) _ (w.heap.size + 1) s _ _ _ [] [] [] [] _ 0 s.size 1 (by omega) (by omega) (by omega) h1 (by omega) (rs_start (w.alloc (.cells #[.int .i64 0,.int .i64 0] 65)) s (w.heap.size + 1) (by simp)) (by intro i x hx; cases hx) rfl rfl (by decide);have b1:=some_bytes_f s h0;have b2:=some_bytes s h0;have b3:decide ((65535:Int) < (s.size:Int)) = false:=decide_eq_false (by omega);have b4:decide (65535 < s.size) = false:=decide_eq_false (by omega);unfold ElAt at hcall;rw [List.length_nil,hT] at hcall;clear hT
 go_enter Tryz.func108,Tryz.ntmps108
 go_wp2_with fail;refine (show Calls _ _ _ _ (ElOk _ _ _ _ _ _ _ _) from hcall).mono ?_;rintro x w9 ⟨tv,fv,ov,ns,rfl,hR9,hN9,-⟩;have hS9:=hR9.since;have hs9:=Since.step ((Since.refl w).alloc (.cells #[.int .i64 0,.int .i64 0] 65)) hS9;have hr9:HR w w.heap.size #[.int .i64 0,.int .i64 0] 65 w9:=HR.step (W:=w.alloc (.cells #[.int .i64 0,.int .i64 0] 65)) ⟨heap_alloc_new w _⟩ hS9;have hf:=((hr_old hr9 (.cells (F2 0 0) 65)).step (Since.drew (Since.refl _))).row;have HS9:=lH ((hs9.alloc (.cells (F2 0 0) 65)).drew);have HR9:=lH ((hR9.step ((Since.refl w9).alloc (.cells (F2 0 0) 65))).step (Since.drew (Since.refl _))).rows;have HN9:=lH hN9;clear hcall hS9 hs9 hr9 hr0 HS hR9 hN9;unfold F2 at hf HS9 HR9 ⊢;go_wp2_with fail;refine RegW.start (fun W' => W' = (w9.alloc (.cells #[.int .i64 0,.int .i64 0] 65)).drew) 3 (by kernel_rfl) rfl (fun hHeld => ?_);refine RegW.take (i:=0) (v:=?_) rfl (by kernel_rfl) (by kernel_rfl) (by kernel_rfl) (by kernel_rfl) (fun _ _ _ h => h) (Or.inl ⟨by rfl, ?_⟩) rfl ?_;rotate_left
 · intro w hSw;clear hSw;go_simp
   try with_reducible rfl
 try simp only [RegW.p]
 refine RegW.take (i:=1) (v:=.agg (F2 0 0)) rfl (by kernel_rfl) (by kernel_rfl) (by kernel_rfl) (by kernel_rfl) (fun _ _ _ h => h) (Or.inl ⟨by rfl, ?_⟩) rfl ?_
 · intro w hSw;subst hSw;unfold F2;go_simp
   try with_reducible rfl
 try simp only [RegW.p]
 refine RegW.take (i:=2) (v:=?_) rfl (by kernel_rfl) (by kernel_rfl) (by kernel_rfl) (by kernel_rfl) (fun _ _ _ h => h) (Or.inl ⟨by rfl, ?_⟩) rfl ?_;rotate_left
 · intro w hSw;clear hSw;go_simp
   try with_reducible rfl
 try simp only [RegW.p]
 refine RegW.last rfl (by kernel_rfl) (by kernel_rfl) ?_;refine wpList_store_row rfl 65 _ _ rfl w.heap.size (F2 0 0) (by rfl) (by rfl) _ _ hf (f2_info _ _) rfl (f2_one _ _) ?_;have hself:=setRow_self _ _ _ _ _ hf;unfold F2;rw [hself];go_wp2_with fail;exact bodyPost_ret (v:=.tuple #[.pointer (some ⟨w.heap.size + 1,0,none⟩),.agg (F2 0 0)]) (results_t_cell Tryz.results108 _ _ _ _ _ _ _ _ rfl rfl hf Tryz.underlying65 rfl (f2_info _ _)) rfl ⟨_,tv,fv,ov,ns,rfl,rows_base HR9.out (by simp),HN9.out,HS9.out⟩
set_option maxHeartbeats 2000000 in
theorem wh_more (s:ByteArray) (h0:0 < s.size) (h1:s.size <= 65535) (f:F) (q:Nat) (hT:one Strs.rightB s 0 s.size 1 0 = .ok (f,q)) (hq:q < s.size) (w:World):Calls Tryz.prog 108 #[.string s] w (WErr w 5 (q:Int)):=by
 have k1:decide ((q:Int) < (s.size:Int)) = true:=decide_eq_true (by omega);have k2:decide (q < s.size) = true:=decide_eq_true hq;have hr0:=lH (show HR w w.heap.size #[.int .i64 0,.int .i64 0] 65 ((w.alloc (.cells #[.int .i64 0,.int .i64 0] 65)).alloc (.cells #[.string s,.slice none 0 0,.slice none 0 0,.slice none 0 0] 147)) from hr_old ⟨heap_alloc_new w _⟩ _);have HS:=lH (((Since.refl w).alloc (.cells #[.int .i64 0,.int .i64 0] 65)).alloc (.cells #[.string s,.slice none 0 0,.slice none 0 0,.slice none 0 0] 147));have hcall:=el_any (s.size + 1) _ (w.heap.size + 1) s _ _ _ [] [] [] [] _ 0 s.size 1 (by omega) (by omega) (by omega) h1 (by omega) (rs_start (w.alloc (.cells #[.int .i64 0,.int .i64 0] 65)) s (w.heap.size + 1) (by simp)) (by intro i x hx; cases hx) rfl rfl (by decide);have b1:=some_bytes_f s h0;have b2:=some_bytes s h0;have b3:decide ((65535:Int) < (s.size:Int)) = false:=decide_eq_false (by omega);have b4:decide (65535 < s.size) = false:=decide_eq_false (by omega);unfold ElAt at hcall;rw [List.length_nil,hT] at hcall;clear hT
 go_enter Tryz.func108,Tryz.ntmps108
 go_wp2_with fail;refine (show Calls _ _ _ _ (ElOk _ _ _ _ _ _ _ _) from hcall).mono ?_;rintro x w9 ⟨tv,fv,ov,ns,rfl,hR9,hN9,-⟩;have hS9:=hR9.since;have hs9:=Since.step ((Since.refl w).alloc (.cells #[.int .i64 0,.int .i64 0] 65)) hS9;have hr9:HR w w.heap.size #[.int .i64 0,.int .i64 0] 65 w9:=HR.step (W:=w.alloc (.cells #[.int .i64 0,.int .i64 0] 65)) ⟨heap_alloc_new w _⟩ hS9;have hr10:=lH (hr_old hr9 (.cells (F2 0 0) 65));have HS9:=lH (hs9.alloc (.cells (F2 0 0) 65));have hn:=lH (show HR w w9.heap.size #[.int .i64 0,.int .i64 0] 65 (w9.alloc (.cells (F2 0 0) 65)) from ⟨heap_alloc_new w9 _⟩);have hb:w.heap.size < w9.heap.size:=Nat.lt_of_lt_of_le (by simp) (Below.size hS9);clear hcall hS9 hs9 hr9 hr0 HS hR9 hN9;unfold F2 at hr10 HS9 hn ⊢;go_wp2_with fail;refine (faulty_mak 5 (q:Int)).calls0 ?_;intro w10 h10;replace hr10:=lH (hr10.out.step h10);replace HS9:=lH (HS9.out.step h10);replace hn:=lH (hn.out.step h10);have hnf:=hn.out.row;clear h10;go_wp2_with (refine wpList_store_row rfl 65 _ _ rfl w9.heap.size (F2 5 (q:Int)) (by rfl) (by rfl) _ _ hnf (f2_info _ _) rfl (f2_one _ _) ?_)
 obtain ⟨W2,hW2⟩:∃ W2,W2 = w10.setRow w9.heap.size (F2 5 (q:Int)):=⟨_,rfl⟩
 have hn2:=setRow_heap _ _ _ (F2 5 (q:Int)) _ _ hnf;have hr2:(w10.setRow w9.heap.size (F2 5 (q:Int))).heap[w.heap.size]? = _:=(setRow_other w10 w9.heap.size w.heap.size _ (by omega)).trans hr10.out.row;have HS2:=lH (below_setRow HS9.out (Nat.le_of_lt hb) (F2 5 (q:Int)));rw [<- hW2] at hn2 hr2 HS2 ⊢;have m0:W2.cell? ⟨w9.heap.size,0,none⟩ = some (.int .i64 5):=by unfold World.cell?; rw [hn2]; rfl
 have m1:W2.cell? ⟨w9.heap.size,1,none⟩ = some (.int .i64 (q:Int)):=by unfold World.cell?; rw [hn2]; rfl
 have hf:W2.drew.heap[w.heap.size]? = some (.cells #[.int .i64 0,.int .i64 0] 65 (0,0)):=hr2;clear hW2 hn2 hr2 hn hnf hr10 HS9;go_wp2_with fail;refine RegW.start (fun W' => W' = (W2).drew) 3 (by kernel_rfl) rfl (fun hHeld => ?_);refine RegW.take (i:=0) (v:=?_) rfl (by kernel_rfl) (by kernel_rfl) (by kernel_rfl) (by kernel_rfl) (fun _ _ _ h => h) (Or.inl ⟨by rfl, ?_⟩) rfl ?_;rotate_left
 · intro w hSw;clear hSw;go_simp
   try with_reducible rfl
 try simp only [RegW.p]
 refine RegW.take (i:=1) (v:=.agg (F2 5 (q:Int))) rfl (by kernel_rfl) (by kernel_rfl) (by kernel_rfl) (by kernel_rfl) (fun _ _ _ h => h) (Or.inl ⟨by rfl, ?_⟩) rfl ?_
 · intro w hSw;subst hSw;unfold F2;go_simp
   try with_reducible rfl
 try simp only [RegW.p]
 refine RegW.take (i:=2) (v:=?_) rfl (by kernel_rfl) (by kernel_rfl) (by kernel_rfl) (by kernel_rfl) (fun _ _ _ h => h) (Or.inl ⟨by rfl, ?_⟩) rfl ?_;rotate_left
 · intro w hSw;clear hSw;go_simp
   try with_reducible rfl
 try simp only [RegW.p]
 refine RegW.last rfl (by kernel_rfl) (by kernel_rfl) ?_;refine wpList_store_row rfl 65 _ _ rfl w.heap.size (F2 5 (q:Int)) (by rfl) (by rfl) _ _ hf (f2_info _ _) rfl (f2_one _ _) ?_;go_wp2_with fail;exact bodyPost_ret (v:=.tuple #[.pointer (some ⟨w.heap.size + 1,0,none⟩),.agg (F2 5 (q:Int))]) (results_t_cell Tryz.results108 _ _ _ _ _ _ _ _ rfl rfl (setRow_heap _ _ _ _ _ _ hf) Tryz.underlying65 rfl (f2_info _ _)) rfl ⟨_,rfl,below_setRow HS2.out.drew (Nat.le_refl _) _⟩
theorem wh_any (s:ByteArray) (w:World):match top Strs.rightB s with
   | .error (c,p) => Calls Tryz.prog 108 #[.string s] w (WErr w (c:Int) (p:Int))
   | .ok f => Calls Tryz.prog 108 #[.string s] w (WOk w s (f.flat 0) ((f.spans 0).map Prod.fst) ((f.spans 0).map Prod.snd)):=by
 unfold top
 by_cases h0:s.size = 0
 · rw [if_pos h0];obtain rfl:s = ⟨#[]⟩:=ba_ext (List.eq_nil_of_length_eq_zero (by have h8:s.size = s.data.toList.length:=rfl; omega));exact wh_empty ⟨#[]⟩ (by rw [toList_d]; rfl) (by rw [toList_d]; rfl) w
 rw [if_neg h0]
 by_cases h1:65535 < s.size
 · rw [if_pos h1];exact wh_long s (some_bytes_f s (by omega)) (some_bytes s (by omega)) (decide_eq_true (by omega)) w
 rw [if_neg h1];cases hT:one Strs.rightB s 0 s.size 1 0 with
 | error y =>
   obtain ⟨c,q⟩:=y;exact wh_err s (by omega) (by omega) c q hT w
 | ok y =>
   obtain ⟨f,q⟩:=y;dsimp only
   by_cases hq:q < s.size
   · rw [if_pos hq];exact wh_more s (by omega) (by omega) f q hT hq w
   · rw [if_neg hq];exact wh_ok s (by omega) (by omega) f q hT hq w
end Tlv
namespace Tlv
open Span Flt Rw
section
variable {w0:World} {g:Nat} {s:ByteArray} {tv fv ov:Value} {ns:List (Nd × Value)} {fr to:List Nat} {X:List Row} {W:World}
end
def WhE (s:ByteArray) (c p:Int):Prop:=∀ w,Calls Tryz.prog 108 #[.string s] w (WErr w c p)
def WhO (s:ByteArray) (N:List Nd) (FR TO:List Nat):Prop:=∀ w,Calls Tryz.prog 108 #[.string s] w (WOk w s N FR TO)
set_option maxHeartbeats 1000000 in
theorem rdec_err (s:ByteArray) (c p:Int) (k1:(c != 0) = true) (c1:WhE s c p) (w:World):Calls Tryz.prog 63 #[.string s] w fun e w' => ∃ tv,e = .returned (.tuple #[tv,.agg (F2 c p)]) /\ TreeS w' tv [] /\ Since w w':=by
 go_enter Tryz.func63,Tryz.ntmps63
 go_wp2_with fail;refine (c1 _).mono ?_;rintro x w9 ⟨g,rfl,hS9⟩;have hs9:=lH (((Since.step ((Since.refl w).alloc (.cells #[.int .i64 0,.int .i64 0] 65)) hS9).alloc (.cells (F2 c p) 65)).drew);have hf:=((hr_old (HR.step (w:=w) (W:=w.alloc (.cells #[.int .i64 0,.int .i64 0] 65)) ⟨heap_alloc_new w _⟩ hS9) (.cells (F2 c p) 65)).step (Since.drew (Since.refl _))).row;clear hS9;unfold F2 at hf hs9 ⊢;go_wp2_with fail;refine RegW.start (fun W' => W' = (w9.alloc (.cells #[.int .i64 c,.int .i64 p] 65)).drew) 2 (by kernel_rfl) rfl (fun hHeld => ?_);refine RegW.take (i:=0) (v:=.agg (F2 c p)) rfl (by kernel_rfl) (by kernel_rfl) (by kernel_rfl) (by kernel_rfl) (fun _ _ _ h => h) (Or.inl ⟨by rfl, ?_⟩) rfl ?_
 · intro w hSw;subst hSw;unfold F2;go_simp
   try with_reducible rfl
 try simp only [RegW.p]
 refine RegW.take (i:=1) (v:=?_) rfl (by kernel_rfl) (by kernel_rfl) (by kernel_rfl) (by kernel_rfl) (fun _ _ _ h => h) (Or.inl ⟨by rfl, ?_⟩) rfl ?_;rotate_left
 · intro w hSw;clear hSw;go_simp
   try with_reducible rfl
 try simp only [RegW.p]
 refine RegW.last rfl (by kernel_rfl) (by kernel_rfl) ?_;refine wpList_store_row rfl 65 _ _ rfl w.heap.size (F2 c p) (by rfl) (by rfl) _ _ hf (f2_info _ _) rfl (f2_one _ _) ?_;go_wp2_with fail;exact bodyPost_ret (v:=.tuple #[.slice none 0 0,.agg (F2 c p)]) (results_t_cell Tryz.results63 _ _ _ _ _ _ _ _ rfl rfl (setRow_heap _ _ _ _ _ _ hf) Tryz.underlying65 rfl (f2_info _ _)) rfl ⟨_,rfl,TreeS.nil _,below_setRow hs9.out (Nat.le_refl _) _⟩
end Tlv
end Go.Proofs.YtpanhhjkecebkaaGreat
