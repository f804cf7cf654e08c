import Derived.Test.YtpanhhjkecebkaaGreatPt37
import Derived.Test.YtpanhhjkecebkaaGreatPt54
set_option maxRecDepth 100000
namespace Go.Proofs.YtpanhhjkecebkaaGreat
open Go.RowKit
namespace Atf
open Att Rw Atm Tlv Setof
def SRow (w wr:World) (V:Value) (l:List ByteArray):Prop:=Rw.Rows wr w.heap.size (([]:List Row) ++ ⟨9,1,V,l.length,l.map Value.string⟩ :: [])
theorem SRow.nil (w wr:World):SRow w wr (.slice none 0 0) []:=⟨fun r hr => by rw [List.mem_singleton.1 hr]; exact World.ownsRow_nil _ _ _ _,by simp⟩
theorem SRow.since {w wr wy:World} {V:Value} {l:List ByteArray} (h:SRow w wr V l) (hs:Since wr wy):SRow w wy V l:=Rw.Rows.since h hs
theorem SRow.val {w wr:World} {V:Value} {l:List ByteArray} (h:SRow w wr V l):∃ A c,V = .slice A l.length c /\ l.length <= c:=own_slice h.get
theorem SRow.strs {w wr:World} {V:Value} {l:List ByteArray} (h:SRow w wr V l):StrsS wr V l:=SlR.own h.get
theorem SRow.app {w wr:World} {V:Value} {l:List ByteArray} (s:ByteArray) (h:Rw.Rows wr w.heap.size (([]:List Row) ++ ⟨9,1,V,l.length + 1,l.map Value.string ++ (#[.string s]:Array Value).toList⟩ :: [])):SRow w wr V (l ++ [s]):=by
 unfold SRow;rw [List.length_append,List.map_append];exact h
theorem s_one (s:ByteArray):∀ u ∈ (#[.string s]:Array Value).toList,u.oneCell' = true:=by
 intro u hu;simp only [List.mem_cons,List.not_mem_nil,or_false] at hu;subst hu;rfl
theorem inter_nil (l:List (List UInt8)):([]:List UInt8).intercalate l = l.flatten:=by
 induction l with
 | nil => rfl
 | cons a r ih =>
   cases r with
   | nil => simp [List.intercalate]
   | cons b r =>
     have e:([]:List UInt8).intercalate (a :: b :: r) = a ++ ([] ++ ([]:List UInt8).intercalate (b :: r)):=by simp [List.intercalate]
     rw [e,ih,List.flatten_cons];rfl
theorem join_rd (l:List ByteArray) (hl:(catB l).size <= 140737488355328) (hn:l.length <= 140737488355328) (w:World) (x:Value) (hx:StrsS w x l):Calls Tryz.prog 40 #[x,.string ⟨#[]⟩] w fun e w' => e = .returned (.string (catB l)) /\ Since w w':=by
 by_cases h0:l.length = 0
 · obtain rfl:=List.length_eq_zero_iff.1 h0;obtain ⟨A,c,rfl,-⟩:=SlR.empty hx rfl;refine (Tryz.strings_Join_none A c ⟨#[]⟩ w).mono ?_;rintro _ _ ⟨rfl,rfl⟩;exact ⟨rfl,Since.refl _⟩
 · obtain ⟨b,o,c,rfl,h1,h2,h3,h4⟩:=strs_cells hx (by omega);have e:Lib.join (l.map (·.data.toList)) (⟨#[]⟩:ByteArray).data.toList = (l.map dl).flatten:=inter_nil _;have h:=Tryz.strings_Join b o c l ⟨#[]⟩ w (fun j y hy => h4 j y hy) h3 hn h1 (by rw [e]; unfold catB at hl; rw [size_bs] at hl; exact hl);rw [e] at h;exact h
end Atf
namespace Pk
open Tlv Tree Strs Rw
def Z4:Array Value:=#[.slice none 0 0,.slice none 0 0,.string ⟨#[]⟩,.string ⟨#[]⟩]
theorem i4_info (a b c d:Value):(Tryz.prog.info? 48).map (·.size) = some (#[a,b,c,d]:Array Value).size:=by kernel_rfl
theorem i4_one (A B:Option Addr) (n c n2 c2:Nat) (k s:ByteArray):(#[.slice A n c,.slice B n2 c2,.string k,.string s]:Array Value).all (·.oneCell') = true:=by
 rw [Array.all_eq_true];intro k hk
 match k,hk with
 | 0,_ | 1,_ | 2,_ | 3,_ => rfl
def DecI (f:Nat) (s:ByteArray) (xs ps:List Int) (key attrs:ByteArray) (c:Int):Prop:=∀ w,Calls Tryz.prog f #[.string s] w fun e w' => ∃ v1 v2,e = .returned (.tuple #[.agg #[v1,v2,.string key,.string attrs],.int .i64 c]) /\ IntsS w' v1 xs /\ IntsS w' v2 ps /\ Since w w'
theorem drew_since3 (w:World):Since w w.drew:=⟨rfl,rfl,rfl,Nat.le_refl _,fun _ _ => rfl⟩
theorem lt_cell {W:World} {g o:Nat} {v:Value} (h:W.cell? ⟨g,o,none⟩ = some v):g < W.heap.size:=by
 rcases Nat.lt_or_ge g W.heap.size with h1 | h1
 · exact h1
 · simp [World.cell?,Array.getElem?_eq_none h1] at h
theorem cell_setRow {W:World} {g g1 k:Nat} {cells:Array Value} (h:g1 ≠ g):(W.setRow g cells).cell? ⟨g1,k,none⟩ = W.cell? ⟨g1,k,none⟩:=by
 have h1:=setRow_other W g g1 cells h;simp [World.cell?,h1]
set_option maxHeartbeats 4000000 in
theorem pdec_1 (s:ByteArray) (C P:Int) (hC:(C != 0) = true) (N:List Nd) (d1:DecT s C P N):DecI 29 s [] [] ⟨#[]⟩ ⟨#[]⟩ C:=by
 intro w;have hr:=lH (show HR w w.heap.size #[.slice none 0 0,.slice none 0 0,.string ⟨#[]⟩,.string ⟨#[]⟩] 48 (w.alloc (.cells #[.slice none 0 0,.slice none 0 0,.string ⟨#[]⟩,.string ⟨#[]⟩] 48)) from ⟨heap_alloc_new w _⟩);have HS:=lH ((Since.refl w).alloc (.cells #[.slice none 0 0,.slice none 0 0,.string ⟨#[]⟩,.string ⟨#[]⟩] 48))
 go_enter Tryz.func29,Tryz.ntmps29
 go_wp2_with fail;refine (d1 _).mono ?_;rintro _ w1 ⟨u1,rfl,hU,h1⟩;replace hU:=hU.tree;obtain ⟨A1,q1,e1,-,-⟩:=hU.slice;subst e1;replace HS:=lH (HS.out.step h1);replace hr:=lH (hr.out.step h1);have r1:(w1.alloc (.cells #[.int .i64 0,.int .i64 0] 65)).heap[w1.heap.size]? = some (.cells #[.int .i64 0,.int .i64 0] 65 (0,0)):=heap_alloc_new w1 _;have hb:=lH (hb_row (K:=KT) (C':=#[.int .i64 C,.int .i64 P]) ((Since.refl w1).alloc _) (Nat.le_refl _) trivial r1);have y0:=hb.out.cell 0 _ rfl;have hlw:w.heap.size < w1.heap.size:=(Array.getElem?_eq_some_iff.1 hr.out.row).1;replace HS:=lH (HS.out.step hb.out.since);replace hr:=lH (hr.out.step hb.out.since);have HU:=lH (hU.since hb.out.since);obtain ⟨n0,hn0⟩:∃ n,n = N.length:=⟨_,rfl⟩
 rw [<- hn0] at HU ⊢;have HN0:=lH hn0;clear hU h1 hn0;go_wp2_with (refine RwL.at_store (ty:=65) rfl ?_; refine wpList_store_row rfl 65 _ _ rfl w1.heap.size #[.int .i64 C,.int .i64 P] (by rfl) (by rfl) _ _ r1 (f2_info C P) rfl (f2_one C P) ?_; generalize hw2:(w1.alloc (.cells #[.int .i64 0,.int .i64 0] 65)).setRow w1.heap.size #[.int .i64 C,.int .i64 P] = w2 at HS hr HU y0 ⊢; clear hw2 r1 hb)
 replace y0:w2.cell? ⟨w1.heap.size,0,none⟩ = some (.int .i64 C):=y0;have hl1:w1.heap.size < w2.heap.size:=lt_cell y0;refine RegW.start (fun W' => Hid (Since w W') /\ W'.cell? ⟨w1.heap.size,0,none⟩ = some (.int .i64 C)) 4 (by kernel_rfl) ⟨lH (HS.out.step (drew_since3 _)),(Below.cell (drew_since3 _) (p:=⟨w1.heap.size,0,none⟩) hl1).trans y0⟩ (fun hHeld => ?_);refine RegW.tk 0 rfl ?_;try simp only [RegW.p]
 refine RegW.tk 1 rfl ?_;try simp only [RegW.p]
 refine RegW.tk 2 rfl ?_;try simp only [RegW.p]
 refine RegW.only (i:=3) rfl (by kernel_rfl) (fun K hK => ?_);rw [if_pos (by kernel_rfl)];have r9:=(hr.out.step (drew_since3 w2)).row;refine wp_store_row 48 _ _ rfl w.heap.size #[.slice none 0 0,.slice none 0 0,.string ⟨#[]⟩,.string ⟨#[]⟩] (by rfl) (by rfl) _ _ r9 (i4_info _ _ _ _) rfl (i4_one _ _ _ _ _ _ _ _) ?_;refine hK.out _ _ ⟨lH (below_setRow hHeld.1.out (Nat.le_refl _) _),(cell_setRow (by omega)).trans hHeld.2⟩ (fun hHeld2 => ?_);clear hK K;refine RegW.last rfl (by kernel_rfl) (by kernel_rfl) ?_;have HS2:=hHeld2.1;clear hHeld2;go_wp2_with fail;exact bodyPost_ret (v:=.tuple #[.agg #[.slice none 0 0,.slice none 0 0,.string ⟨#[]⟩,.string ⟨#[]⟩],.int .i64 C]) (results_cell_tmp2 Tryz.results29 _ _ _ _ _ _ _ _ rfl rfl (setRow_heap _ _ _ _ _ _ r9) Tryz.underlying48 rfl (i4_info _ _ _ _)) rfl ⟨_,_,rfl,IntsS.nil _,IntsS.nil _,HS2.out⟩
set_option maxHeartbeats 4000000 in
theorem pdec_2 (s:ByteArray) (C P:Int) (hC:(C != 0) = false) (N:List Nd) (d1:DecT s C P N) (x0:Nd) (hx0:N[0]? = some x0) (Ns:List (List Nd)) (c1:∀ w v,TreeS w v N -> Calls Tryz.prog 68 #[v] w fun e w' => ∃ v',e = .returned v' /\ TreesS w' v' Ns /\ Since w w') (hq:false = tagsB x0.c x0.t 0 [16]):DecI 29 s [] [] ⟨#[]⟩ ⟨#[]⟩ 5:=by
 have HQ:=lH hq;clear hq;intro w;have hr:=lH (show HR w w.heap.size #[.slice none 0 0,.slice none 0 0,.string ⟨#[]⟩,.string ⟨#[]⟩] 48 (w.alloc (.cells #[.slice none 0 0,.slice none 0 0,.string ⟨#[]⟩,.string ⟨#[]⟩] 48)) from ⟨heap_alloc_new w _⟩);have HS:=lH ((Since.refl w).alloc (.cells #[.slice none 0 0,.slice none 0 0,.string ⟨#[]⟩,.string ⟨#[]⟩] 48))
 go_enter Tryz.func29,Tryz.ntmps29
 go_wp2_with fail;refine (d1 _).mono ?_;rintro _ w1 ⟨u1,rfl,hU,h1⟩;replace hU:=hU.tree;obtain ⟨A1,q1,e1,-,-⟩:=hU.slice;subst e1;replace HS:=lH (HS.out.step h1);replace hr:=lH (hr.out.step h1);have r1:(w1.alloc (.cells #[.int .i64 0,.int .i64 0] 65)).heap[w1.heap.size]? = some (.cells #[.int .i64 0,.int .i64 0] 65 (0,0)):=heap_alloc_new w1 _;have hb:=lH (hb_row (K:=KT) (C':=#[.int .i64 C,.int .i64 P]) ((Since.refl w1).alloc _) (Nat.le_refl _) trivial r1);have y0:=hb.out.cell 0 _ rfl;have hlw:w.heap.size < w1.heap.size:=(Array.getElem?_eq_some_iff.1 hr.out.row).1;replace HS:=lH (HS.out.step hb.out.since);replace hr:=lH (hr.out.step hb.out.since);have HU:=lH (hU.since hb.out.since);obtain ⟨n0,hn0⟩:∃ n,n = N.length:=⟨_,rfl⟩
 rw [<- hn0] at HU ⊢;have HN0:=lH hn0;clear hU h1 hn0;go_wp2_with (refine RwL.at_store (ty:=65) rfl ?_; refine wpList_store_row rfl 65 _ _ rfl w1.heap.size #[.int .i64 C,.int .i64 P] (by rfl) (by rfl) _ _ r1 (f2_info C P) rfl (f2_one C P) ?_; generalize hw2:(w1.alloc (.cells #[.int .i64 0,.int .i64 0] 65)).setRow w1.heap.size #[.int .i64 C,.int .i64 P] = w2 at HS hr HU y0 ⊢; clear hw2 r1 hb)
 refine (c1 _ _ HU.out).mono ?_;rintro _ w3 ⟨v3,rfl,t3,h3⟩;replace HS:=lH (HS.out.step h3);replace hr:=lH (hr.out.step h3);replace HU:=lH (HU.out.since h3);obtain ⟨A3,q3,rfl,-,-⟩:=t3.slice;have HP:=lH t3;obtain ⟨p0,hp0⟩:∃ n,n = Ns.length:=⟨_,rfl⟩
 rw [<- hp0] at HP ⊢;have HPN:=lH hp0;clear h3 t3 y0 hp0;go_wp2_with fail;have hb:=(Since.refl w3).alloc (.cells #[.int .i64 16] 3);refine (is_rd _ _ 0 [16] (by decide) false HQ.out _ _ _ ((fst_tree HU.out hx0).since hb) (tags_lit w3 16)).mono ?_;rintro _ w4 ⟨rfl,h4⟩;replace HS:=lH ((HS.out.step hb).step h4);replace hr:=lH ((hr.out.step hb).step h4);replace HP:=lH ((HP.out.since hb).since h4);clear hb h4 HU;go_wp2_with (refine RwL.at_store (ty:=48) rfl ?_; refine wpList_store_row rfl 48 _ _ rfl w.heap.size #[.slice none 0 0,.slice none 0 0,.string ⟨#[]⟩,.string ⟨#[]⟩] (by rfl) (by rfl) _ _ hr.out.row (i4_info _ _ _ _) rfl (i4_one _ _ _ _ _ _ _ _) ?_)
 exact bodyPost_ret (v:=.tuple #[.agg #[.slice none 0 0,.slice none 0 0,.string ⟨#[]⟩,.string ⟨#[]⟩],.int .i64 5]) (results_cell_tmp2 Tryz.results29 _ _ _ _ _ _ _ _ rfl rfl (setRow_heap _ _ _ _ _ _ hr.out.row) Tryz.underlying48 rfl (i4_info _ _ _ _)) rfl ⟨_,_,rfl,IntsS.nil _,IntsS.nil _,below_setRow HS.out (Nat.le_refl _) _⟩
set_option maxHeartbeats 4000000 in
theorem pdec_3 (s:ByteArray) (C P:Int) (hC:(C != 0) = false) (N:List Nd) (d1:DecT s C P N) (x0:Nd) (hx0:N[0]? = some x0) (Ns:List (List Nd)) (c1:∀ w v,TreeS w v N -> Calls Tryz.prog 68 #[v] w fun e w' => ∃ v',e = .returned v' /\ TreesS w' v' Ns /\ Since w w') (hq:true = tagsB x0.c x0.t 0 [16]) (c2:RdQ 70 Ns false):DecI 29 s [] [] ⟨#[]⟩ ⟨#[]⟩ 5:=by
 have HQ:=lH hq;clear hq;intro w;have hr:=lH (show HR w w.heap.size #[.slice none 0 0,.slice none 0 0,.string ⟨#[]⟩,.string ⟨#[]⟩] 48 (w.alloc (.cells #[.slice none 0 0,.slice none 0 0,.string ⟨#[]⟩,.string ⟨#[]⟩] 48)) from ⟨heap_alloc_new w _⟩);have HS:=lH ((Since.refl w).alloc (.cells #[.slice none 0 0,.slice none 0 0,.string ⟨#[]⟩,.string ⟨#[]⟩] 48))
 go_enter Tryz.func29,Tryz.ntmps29
 go_wp2_with fail;refine (d1 _).mono ?_;rintro _ w1 ⟨u1,rfl,hU,h1⟩;replace hU:=hU.tree;obtain ⟨A1,q1,e1,-,-⟩:=hU.slice;subst e1;replace HS:=lH (HS.out.step h1);replace hr:=lH (hr.out.step h1);have r1:(w1.alloc (.cells #[.int .i64 0,.int .i64 0] 65)).heap[w1.heap.size]? = some (.cells #[.int .i64 0,.int .i64 0] 65 (0,0)):=heap_alloc_new w1 _;have hb:=lH (hb_row (K:=KT) (C':=#[.int .i64 C,.int .i64 P]) ((Since.refl w1).alloc _) (Nat.le_refl _) trivial r1);have y0:=hb.out.cell 0 _ rfl;have hlw:w.heap.size < w1.heap.size:=(Array.getElem?_eq_some_iff.1 hr.out.row).1;replace HS:=lH (HS.out.step hb.out.since);replace hr:=lH (hr.out.step hb.out.since);have HU:=lH (hU.since hb.out.since);obtain ⟨n0,hn0⟩:∃ n,n = N.length:=⟨_,rfl⟩
 rw [<- hn0] at HU ⊢;have HN0:=lH hn0;clear hU h1 hn0;go_wp2_with (refine RwL.at_store (ty:=65) rfl ?_; refine wpList_store_row rfl 65 _ _ rfl w1.heap.size #[.int .i64 C,.int .i64 P] (by rfl) (by rfl) _ _ r1 (f2_info C P) rfl (f2_one C P) ?_; generalize hw2:(w1.alloc (.cells #[.int .i64 0,.int .i64 0] 65)).setRow w1.heap.size #[.int .i64 C,.int .i64 P] = w2 at HS hr HU y0 ⊢; clear hw2 r1 hb)
 refine (c1 _ _ HU.out).mono ?_;rintro _ w3 ⟨v3,rfl,t3,h3⟩;replace HS:=lH (HS.out.step h3);replace hr:=lH (hr.out.step h3);replace HU:=lH (HU.out.since h3);obtain ⟨A3,q3,rfl,-,-⟩:=t3.slice;have HP:=lH t3;obtain ⟨p0,hp0⟩:∃ n,n = Ns.length:=⟨_,rfl⟩
 rw [<- hp0] at HP ⊢;have HPN:=lH hp0;clear h3 t3 y0 hp0;go_wp2_with fail;have hb:=(Since.refl w3).alloc (.cells #[.int .i64 16] 3);refine (is_rd _ _ 0 [16] (by decide) true HQ.out _ _ _ ((fst_tree HU.out hx0).since hb) (tags_lit w3 16)).mono ?_;rintro _ w4 ⟨rfl,h4⟩;replace HS:=lH ((HS.out.step hb).step h4);replace hr:=lH ((hr.out.step hb).step h4);replace HP:=lH ((HP.out.since hb).since h4);clear hb h4 HU;go_wp2_with fail;refine (c2 _ _ HP.out).mono ?_;rintro _ w5 ⟨rfl,h5⟩;replace HS:=lH (HS.out.step h5);replace hr:=lH (hr.out.step h5);clear h5 HP;go_wp2_with (refine RwL.at_store (ty:=48) rfl ?_; refine wpList_store_row rfl 48 _ _ rfl w.heap.size #[.slice none 0 0,.slice none 0 0,.string ⟨#[]⟩,.string ⟨#[]⟩] (by rfl) (by rfl) _ _ hr.out.row (i4_info _ _ _ _) rfl (i4_one _ _ _ _ _ _ _ _) ?_)
 exact bodyPost_ret (v:=.tuple #[.agg #[.slice none 0 0,.slice none 0 0,.string ⟨#[]⟩,.string ⟨#[]⟩],.int .i64 5]) (results_cell_tmp2 Tryz.results29 _ _ _ _ _ _ _ _ rfl rfl (setRow_heap _ _ _ _ _ _ hr.out.row) Tryz.underlying48 rfl (i4_info _ _ _ _)) rfl ⟨_,_,rfl,IntsS.nil _,IntsS.nil _,below_setRow HS.out (Nat.le_refl _) _⟩
theorem hr_set {w W:World} {g:Nat} {C:Array Value} {t:TypeId} (h:HR w g C t W) (k:Nat) (v:Value):HR w g (C.setIfInBounds k v) t (W.setCell ⟨g,k,none⟩ v):=⟨by rw [Go.setCell_eq_setRow W g k C t _ v h.row]; exact setRow_heap _ _ _ _ _ _ h.row⟩
theorem hr_free {w W:World} {g:Nat} {C:Array Value} {t:TypeId} (h:HR w g C t W) (k:Nat):W.frozen? ⟨g,k,none⟩ = false:=by simp [World.frozen?,h.row]
theorem hi_mk (w:World) {W:World} {g:Nat} {old:Array Value} {t:TypeId} (h:W.heap[g]? = some (.cells old t (0,0))) (new:Array Value):HR w g new t (W.setRow g new):=⟨setRow_heap _ _ _ _ _ _ h⟩
theorem hr_oth {w W:World} {g k:Nat} {C:Array Value} {t:TypeId} (h:HR w k C t W) (hne:k ≠ g) (new:Array Value):HR w k C t (W.setRow g new):=⟨(setRow_other _ _ _ _ hne).trans h.row⟩
theorem hr_low {w w' W:World} {g k:Nat} {C C':Array Value} {t t':TypeId} (h:HR w k C t W) (hg:HR w' g C' t' W) (hne:k ≠ g) (j:Nat) (v:Value):HR w k C t (W.setCell ⟨g,j,none⟩ v):=by
 rw [Go.setCell_eq_setRow W g j C' t' _ v hg.row];exact hr_oth h hne _
theorem since_row {w W:World} (h:Since w W) {g:Nat} (hg:w.heap.size <= g) (new:Array Value):Since w (W.setRow g new):=below_setRow h hg _
theorem since_cell {w W:World} (h:Since w W) {g:Nat} (hg:w.heap.size <= g) (k:Nat) (v:Value):Since w (W.setCell ⟨g,k,none⟩ v):=Below.setCell h hg v
theorem i4_ints (A B:Option Addr) (n c n2 c2:Nat) (k s:ByteArray):∀ (j:Nat) (x:Int),(#[.slice A n c,.slice B n2 c2,.string k,.string s]:Array Value)[j]? ≠ some (.int .i64 x):=by
 intro j x
 match j with
 | 0 | 1 | 2 | 3 => simp
 | j + 4 => simp
theorem ints_row {w W:World} {g:Nat} {C:Array Value} {t:TypeId} (hr:HR w g C t W) (hC:∀ (j:Nat) (x:Int),C[j]? ≠ some (.int .i64 x)) (new:Array Value) {u:Value} {xs:List Int} (h:IntsS W u xs):IntsS (W.setRow g new) u xs:=by
 obtain ⟨hl,A,c,rfl,h1,h2,h3⟩:=h;refine ⟨hl,A,c,rfl,h1,h2, ?_⟩;rcases h3 with h3 | ⟨b,o,rfl,hlt,hc⟩
 · exact Or.inl h3
 · cases xs with
   | nil => exact Or.inl rfl
   | cons x l =>
     have h0:=hc 0 (.int .i64 x) rfl;have hne:b ≠ g:=by
       rintro rfl;unfold World.cell? at h0;rw [hr.row] at h0;exact hC _ x (by simpa using h0)
     refine Or.inr ⟨b,o,rfl, ?_,fun i u hu => (cell_setRow hne).trans (hc i u hu)⟩;have h5:=setRow_other W g b new hne;have h6:=Array.getElem?_eq_getElem hlt;rw [<- h5] at h6;exact (Array.getElem?_eq_some_iff.1 h6).1
theorem ints_set {w W:World} {g:Nat} {C:Array Value} {t:TypeId} (hr:HR w g C t W) (hC:∀ (j:Nat) (x:Int),C[j]? ≠ some (.int .i64 x)) (k:Nat) (v:Value) {u:Value} {xs:List Int} (h:IntsS W u xs):IntsS (W.setCell ⟨g,k,none⟩ v) u xs:=by
 rw [Go.setCell_eq_setRow W g k C t _ v hr.row];exact ints_row hr hC _ h
structure Dt (b o:Nat) (d:ByteArray) (W:World):Prop where
 lt:b < W.heap.size
 cell:W.cell? ⟨b,o,none⟩ = some (.string d)
theorem Dt.since {b o:Nat} {d:ByteArray} {W W':World} (h:Dt b o d W) (hs:Since W W'):Dt b o d W':=⟨Nat.lt_of_lt_of_le h.lt (Below.size hs),(Below.cell hs (p:=⟨b,o,none⟩) h.lt).trans h.cell⟩
set_option maxHeartbeats 8000000 in
theorem pdec_4 (s:ByteArray) (C P:Int) (hC:(C != 0) = false) (N:List Nd) (d1:DecT s C P N) (x0:Nd) (hx0:N[0]? = some x0) (N0 N1 N2:List Nd) (Ns:List (List Nd)) (hNs:Ns = [N0,N1,N2]) (c1:∀ w v,TreeS w v N -> Calls Tryz.prog 68 #[v] w fun e w' => ∃ v',e = .returned v' /\ TreesS w' v' Ns /\ Since w w') (hq:true = tagsB x0.c x0.t 0 [16]) (c2:RdQ 70 Ns true)
   (y2 y4 y5:Nd) (hy4:N1[1]? = some y4) (hy5:N1[2]? = some y5) (hy2:N2[0]? = some y2) (xs ps:List Int) (qa qb:Bool) (c3:MkI 61 #[.string y4.d] xs qa) (c4:MkI 61 #[.string y5.d] ps qb):DecI 29 s xs ps y2.d (Atm.catB []) 0:=by
 have hJ1:(Atm.catB []).size <= 140737488355328:=by decide
 have hJ2:([]:List ByteArray).length <= 140737488355328:=by decide
 have HQ:=lH hq;have HNS:=lH hNs;clear hq hNs;intro w;have hr:=lH (show HR w w.heap.size #[.slice none 0 0,.slice none 0 0,.string ⟨#[]⟩,.string ⟨#[]⟩] 48 (w.alloc (.cells #[.slice none 0 0,.slice none 0 0,.string ⟨#[]⟩,.string ⟨#[]⟩] 48)) from ⟨heap_alloc_new w _⟩);have HS:=lH ((Since.refl w).alloc (.cells #[.slice none 0 0,.slice none 0 0,.string ⟨#[]⟩,.string ⟨#[]⟩] 48))
 go_enter Tryz.func29,Tryz.ntmps29
 go_wp2_with fail;refine (d1 _).mono ?_;rintro _ w1 ⟨u1,rfl,hU,h1⟩;replace hU:=hU.tree;obtain ⟨A1,q1,e1,-,-⟩:=hU.slice;subst e1;replace HS:=lH (HS.out.step h1);replace hr:=lH (hr.out.step h1);have r1:(w1.alloc (.cells #[.int .i64 0,.int .i64 0] 65)).heap[w1.heap.size]? = some (.cells #[.int .i64 0,.int .i64 0] 65 (0,0)):=heap_alloc_new w1 _;have hb:=lH (hb_row (K:=KT) (C':=#[.int .i64 C,.int .i64 P]) ((Since.refl w1).alloc _) (Nat.le_refl _) trivial r1);have y0:=hb.out.cell 0 _ rfl;have hlw:w.heap.size < w1.heap.size:=(Array.getElem?_eq_some_iff.1 hr.out.row).1;replace HS:=lH (HS.out.step hb.out.since);replace hr:=lH (hr.out.step hb.out.since);have HU:=lH (hU.since hb.out.since);obtain ⟨n0,hn0⟩:∃ n,n = N.length:=⟨_,rfl⟩
 rw [<- hn0] at HU ⊢;have HN0:=lH hn0;clear hU h1 hn0;go_wp2_with (refine RwL.at_store (ty:=65) rfl ?_; refine wpList_store_row rfl 65 _ _ rfl w1.heap.size #[.int .i64 C,.int .i64 P] (by rfl) (by rfl) _ _ r1 (f2_info C P) rfl (f2_one C P) ?_; generalize hw2:(w1.alloc (.cells #[.int .i64 0,.int .i64 0] 65)).setRow w1.heap.size #[.int .i64 C,.int .i64 P] = w2 at HS hr HU y0 ⊢; clear hw2 r1 hb)
 refine (c1 _ _ HU.out).mono ?_;rintro _ w3 ⟨v3,rfl,t3,h3⟩;replace HS:=lH (HS.out.step h3);replace hr:=lH (hr.out.step h3);replace HU:=lH (HU.out.since h3);obtain ⟨A3,q3,rfl,-,-⟩:=t3.slice;have HP:=lH t3;obtain ⟨p0,hp0⟩:∃ n,n = Ns.length:=⟨_,rfl⟩
 rw [<- hp0] at HP ⊢;have HPN:=lH hp0;clear h3 t3 y0 hp0;go_wp2_with fail;have hb:=(Since.refl w3).alloc (.cells #[.int .i64 16] 3);refine (is_rd _ _ 0 [16] (by decide) true HQ.out _ _ _ ((fst_tree HU.out hx0).since hb) (tags_lit w3 16)).mono ?_;rintro _ w4 ⟨rfl,h4⟩;replace HS:=lH ((HS.out.step hb).step h4);replace hr:=lH ((hr.out.step hb).step h4);replace HP:=lH ((HP.out.since hb).since h4);clear hb h4 HU;obtain rfl:p0 = 3:=by rw [HPN.out,HNS.out]; rfl
 clear HPN;go_wp2_with fail;refine (c2 _ _ HP.out).mono ?_;rintro _ w5 ⟨rfl,h5⟩;replace HS:=lH (HS.out.step h5);replace hr:=lH (hr.out.step h5);replace HP:=lH (HP.out.since h5);rw [HNS.out] at HP;clear h5;obtain ⟨bp,op,cp,e1,lp,hp⟩:=HP.out.form (by show 0 < 3; omega);obtain ⟨rfl,-,rfl⟩:=Value.slice.inj e1;obtain ⟨z1,m1,T1⟩:=hp 1 N1 rfl;obtain ⟨z2,m2,T2⟩:=hp 2 N2 rfl;obtain ⟨A4,q4,rfl,-,-⟩:=T1.slice;obtain ⟨A5,q5,rfl,-,-⟩:=T2.slice;obtain ⟨b1,o1,rfl,-,l1,g4⟩:=Atf.at_data T1 1 y4 hy4;obtain ⟨b1',o1',e2,-,-,g5⟩:=Atf.at_data T1 2 y5 hy5;cases e2;obtain ⟨b2,o2,rfl,-,l2,g2⟩:=Atf.at_data T2 0 y2 hy2
 skip
 rw [Nat.zero_mul,Nat.add_zero] at g2;rw [show o1 + 1 * 5 + 3 = o1 + 5 + 3 by omega] at g4;rw [show o1 + 2 * 5 + 3 = o1 + 10 + 3 by omega] at g5;have G5:=lH (Dt.mk l1 g5);have i1:(2:Int) < (N1.length:Int):=by have:=(List.getElem?_eq_some_iff.1 hy5).1; omega
 have i0:(1:Int) < (N1.length:Int):=by omega
 have i2:(0:Int) < (N2.length:Int):=by have:=(List.getElem?_eq_some_iff.1 hy2).1; omega
 obtain ⟨n1,hn1⟩:∃ n,n = N1.length:=⟨_,rfl⟩
 obtain ⟨n2,hn2⟩:∃ n,n = N2.length:=⟨_,rfl⟩
 rw [<- hn1] at i1 i0 m1;rw [<- hn2] at i2 m2;have G4:=lH (Dt.mk l1 g4);have hwl:w.heap.size < w5.heap.size:=(Array.getElem?_eq_some_iff.1 hr.out.row).1;have hr5:Hid (HR w w.heap.size #[.slice none 0 0,.slice none 0 0,.string ⟨#[]⟩,.string ⟨#[]⟩] 48 (w5.alloc (.cells #[.slice none 0 0,.slice none 0 0,.string ⟨#[]⟩,.string ⟨#[]⟩] 48))):=lH (hr_old hr.out _);have r5:(w5.alloc (.cells #[.slice none 0 0,.slice none 0 0,.string ⟨#[]⟩,.string ⟨#[]⟩] 48)).heap[w5.heap.size]? = some (.cells #[.slice none 0 0,.slice none 0 0,.string ⟨#[]⟩,.string ⟨#[]⟩] 48 (0,0)):=heap_alloc_new w5 _;have HS5:=lH (HS.out.alloc (.cells #[.slice none 0 0,.slice none 0 0,.string ⟨#[]⟩,.string ⟨#[]⟩] 48));have H55:Hid (Since w5 (w5.alloc (.cells #[.slice none 0 0,.slice none 0 0,.string ⟨#[]⟩,.string ⟨#[]⟩] 48))):=lH ((Since.refl w5).alloc _);clear e1 lp hp T1 T2 l1 l2 hn1 hn2 g4 g5;go_wp2_with (refine RwL.at_store (ty:=48) rfl ?_; refine wpList_store_row rfl 48 _ _ rfl w5.heap.size #[.slice none 0 0,.slice none 0 0,.string y2.d,.string ⟨#[]⟩] (by rfl) (by rfl) _ _ r5 (i4_info _ _ _ _) rfl (i4_one _ _ _ _ _ _ _ _) ?_; have hi6:=lH (hi_mk w r5 #[.slice none 0 0,.slice none 0 0,.string y2.d,.string ⟨#[]⟩]); have hr6:=lH (hr_oth hr5.out (show w.heap.size ≠ w5.heap.size by omega) #[.slice none 0 0,.slice none 0 0,.string y2.d,.string ⟨#[]⟩]); have HS6:=lH (since_row HS5.out (Nat.le_of_lt hwl) #[.slice none 0 0,.slice none 0 0,.string y2.d,.string ⟨#[]⟩]); have H56:=lH (since_row H55.out (Nat.le_refl _) #[.slice none 0 0,.slice none 0 0,.string y2.d,.string ⟨#[]⟩]); generalize (w5.alloc (.cells #[.slice none 0 0,.slice none 0 0,.string ⟨#[]⟩,.string ⟨#[]⟩] 48)).setRow w5.heap.size #[.slice none 0 0,.slice none 0 0,.string y2.d,.string ⟨#[]⟩] = w6 at hi6 hr6 HS6 H56 ⊢; have g4:=(G4.out.since H56.out).cell; clear r5 hr5 HS5 H55 hr HS m1 m2 g2)
 refine (c3 w6).mono ?_;rintro _ w7 ⟨va,rfl,hva,h7⟩;obtain ⟨Aa,qa',ea,-,-⟩:=hva.slice;subst ea;obtain ⟨nx,hnx⟩:∃ n,n = xs.length:=⟨_,rfl⟩
 rw [<- hnx] at hva ⊢;have HVA:=lH hva;replace HS6:=lH (HS6.out.step h7);replace hr6:=lH (hr6.out.step h7);replace hi6:=lH (hi6.out.step h7);replace H56:=lH (H56.out.step h7);have k0:w7.cell? ⟨w5.heap.size,0,none⟩ = some (.slice none 0 0):=hr_cell hi6.out 0 _ rfl;have f0:=hr_free hi6.out 0;have H8:Hid (Since w5 (w7.setCell ⟨w5.heap.size,0,none⟩ (.slice Aa nx qa'))):=lH (since_cell H56.out (Nat.le_refl _) 0 _);have hi8:Hid (HR w w5.heap.size #[.slice Aa nx qa',.slice none 0 0,.string y2.d,.string ⟨#[]⟩] 48 (w7.setCell ⟨w5.heap.size,0,none⟩ (.slice Aa nx qa'))):=lH (hr_set hi6.out 0 _);have hr8:Hid (HR w w.heap.size #[.slice none 0 0,.slice none 0 0,.string ⟨#[]⟩,.string ⟨#[]⟩] 48 (w7.setCell ⟨w5.heap.size,0,none⟩ (.slice Aa nx qa'))):=lH (hr_low hr6.out hi6.out (by omega) _ _);have HS8:=lH (since_cell HS6.out (Nat.le_of_lt hwl) 0 (.slice Aa nx qa'));have HVA8:Hid (IntsS (w7.setCell ⟨w5.heap.size,0,none⟩ (.slice Aa nx qa')) (.slice Aa nx qa') xs):=lH (ints_set hi6.out (i4_ints _ _ _ _ _ _ _ _) 0 _ hva);have g5:=(G5.out.since H8.out).cell;clear h7 hva hnx G4 g4
 skip
 go_wp2_with fail;generalize w7.setCell ⟨w5.heap.size,0,none⟩ (.slice Aa nx qa') = w8 at H8 hi8 hr8 HS8 HVA8 ⊢;clear k0 f0 g5 HVA H56 hi6 hr6 HS6;refine (c4 w8).mono ?_;rintro _ w9 ⟨vb,rfl,hvb,h9⟩;obtain ⟨Ab,qb',eb,-,-⟩:=hvb.slice;subst eb;obtain ⟨ny,hny⟩:∃ n,n = ps.length:=⟨_,rfl⟩
 rw [<- hny] at hvb ⊢;replace HS8:=lH (HS8.out.step h9);replace hr8:=lH (hr8.out.step h9);replace hi8:=lH (hi8.out.step h9);replace H8:=lH (H8.out.step h9);replace HVA8:=lH (HVA8.out.since h9);have k1:w9.cell? ⟨w5.heap.size,1,none⟩ = some (.slice none 0 0):=hr_cell hi8.out 1 _ rfl;have f1:=hr_free hi8.out 1;have H10:Hid (Since w5 (w9.setCell ⟨w5.heap.size,1,none⟩ (.slice Ab ny qb'))):=lH (since_cell H8.out (Nat.le_refl _) 1 _);have hi10:Hid (HR w w5.heap.size #[.slice Aa nx qa',.slice Ab ny qb',.string y2.d,.string ⟨#[]⟩] 48 (w9.setCell ⟨w5.heap.size,1,none⟩ (.slice Ab ny qb'))):=lH (hr_set hi8.out 1 _);have hr10:Hid (HR w w.heap.size #[.slice none 0 0,.slice none 0 0,.string ⟨#[]⟩,.string ⟨#[]⟩] 48 (w9.setCell ⟨w5.heap.size,1,none⟩ (.slice Ab ny qb'))):=lH (hr_low hr8.out hi8.out (by omega) _ _);have HS10:=lH (since_cell HS8.out (Nat.le_of_lt hwl) 1 (.slice Ab ny qb'));have HVA10:Hid (IntsS (w9.setCell ⟨w5.heap.size,1,none⟩ (.slice Ab ny qb')) (.slice Aa nx qa') xs):=lH (ints_set hi8.out (i4_ints _ _ _ _ _ _ _ _) 1 _ HVA8.out);have HVB10:Hid (IntsS (w9.setCell ⟨w5.heap.size,1,none⟩ (.slice Ab ny qb')) (.slice Ab ny qb') ps):=lH (ints_set hi8.out (i4_ints _ _ _ _ _ _ _ _) 1 _ hvb);clear h9 hvb hny H8 hi8 hr8 HS8 HVA8
 skip
 go_wp2_with fail;generalize w9.setCell ⟨w5.heap.size,1,none⟩ (.slice Ab ny qb') = w10 at H10 hi10 hr10 HS10 HVA10 HVB10 ⊢;clear k1 f1;refine (Atf.join_rd [] hJ1 hJ2 w10 _ (StrsS.nil _)).mono ?_;rintro _ wj ⟨rfl,hj⟩;replace HS10:=lH (HS10.out.step hj);replace hr10:=lH (hr10.out.step hj);replace hi10:=lH (hi10.out.step hj);replace HVA10:=lH (HVA10.out.since hj);replace HVB10:=lH (HVB10.out.since hj);clear hj;have k3:wj.cell? ⟨w5.heap.size,3,none⟩ = some (.string ⟨#[]⟩):=hr_cell hi10.out 3 _ rfl;have f3:=hr_free hi10.out 3;obtain ⟨wk,hwk⟩:∃ W,W = wj.setCell ⟨w5.heap.size,3,none⟩ (.string (Atm.catB [])):=⟨_,rfl⟩
 have hi12:Hid (HR w w5.heap.size #[.slice Aa nx qa',.slice Ab ny qb',.string y2.d,.string (Atm.catB [])] 48 (wj.setCell ⟨w5.heap.size,3,none⟩ (.string (Atm.catB [])))):=lH (hr_set hi10.out 3 _);have hr12:Hid (HR w w.heap.size #[.slice none 0 0,.slice none 0 0,.string ⟨#[]⟩,.string ⟨#[]⟩] 48 (wj.setCell ⟨w5.heap.size,3,none⟩ (.string (Atm.catB [])))):=lH (hr_low hr10.out hi10.out (by omega) _ _);have HS12:=lH (since_cell HS10.out (Nat.le_of_lt hwl) 3 (.string (Atm.catB [])));have HVA12:=lH (ints_set hi10.out (i4_ints _ _ _ _ _ _ _ _) 3 (.string (Atm.catB [])) HVA10.out);have HVB12:=lH (ints_set hi10.out (i4_ints _ _ _ _ _ _ _ _) 3 (.string (Atm.catB [])) HVB10.out);clear HS10 hr10 hi10 HVA10 HVB10;have l0:(wj.setCell ⟨w5.heap.size,3,none⟩ (.string (Atm.catB []))).cell? ⟨w5.heap.size,0,none⟩ = some (.slice Aa nx qa'):=hr_cell hi12.out 0 _ rfl;have l1:(wj.setCell ⟨w5.heap.size,3,none⟩ (.string (Atm.catB []))).cell? ⟨w5.heap.size,1,none⟩ = some (.slice Ab ny qb'):=hr_cell hi12.out 1 _ rfl;have l2:(wj.setCell ⟨w5.heap.size,3,none⟩ (.string (Atm.catB []))).cell? ⟨w5.heap.size,2,none⟩ = some (.string y2.d):=hr_cell hi12.out 2 _ rfl;have l3:(wj.setCell ⟨w5.heap.size,3,none⟩ (.string (Atm.catB []))).cell? ⟨w5.heap.size,3,none⟩ = some (.string (Atm.catB [])):=hr_cell hi12.out 3 _ rfl;clear hi12;go_wp2_with (refine RwL.at_store (ty:=48) rfl ?_; refine wpList_store_row rfl 48 _ _ rfl w.heap.size #[.slice Aa nx qa',.slice Ab ny qb',.string y2.d,.string (Atm.catB [])] (by rfl) (by rfl) _ _ hr12.out.row (i4_info _ _ _ _) rfl (i4_one _ _ _ _ _ _ _ _) ?_)
 exact bodyPost_ret (v:=.tuple #[.agg #[.slice Aa nx qa',.slice Ab ny qb',.string y2.d,.string (Atm.catB [])],.int .i64 0]) (results_cell_tmp2 Tryz.results29 _ _ _ _ _ _ _ _ rfl rfl (setRow_heap _ _ _ _ _ _ hr12.out.row) Tryz.underlying48 rfl (i4_info _ _ _ _)) rfl ⟨_,_,rfl,ints_row hr12.out (i4_ints _ _ _ _ _ _ _ _) _ HVA12.out,ints_row hr12.out (i4_ints _ _ _ _ _ _ _ _) _ HVB12.out,since_row HS12.out (Nat.le_refl _) _⟩
set_option maxHeartbeats 16000000 in
theorem pdec_5 (s:ByteArray) (C P:Int) (hC:(C != 0) = false) (N:List Nd) (d1:DecT s C P N) (x0:Nd) (hx0:N[0]? = some x0) (N0 N1 N2 N3:List Nd) (Ns:List (List Nd)) (hNs:Ns = [N0,N1,N2,N3]) (c1:∀ w v,TreeS w v N -> Calls Tryz.prog 68 #[v] w fun e w' => ∃ v',e = .returned v' /\ TreesS w' v' Ns /\ Since w w') (hq:true = tagsB x0.c x0.t 0 [16]) (c2:RdQ 70 Ns true)
   (y2 y4 y5:Nd) (hy4:N1[1]? = some y4) (hy5:N1[2]? = some y5) (hy2:N2[0]? = some y2) (xs ps:List Int) (qa qb:Bool) (c3:MkI 61 #[.string y4.d] xs qa) (c4:MkI 61 #[.string y5.d] ps qb)
   (Gs:List (List Nd)) (hGl:Gs.length <= 1000) (c5:∀ w v,TreeS w v N3 -> Calls Tryz.prog 68 #[v] w fun e w' => ∃ v',e = .returned v' /\ TreesS w' v' Gs /\ Since w w') (E:List Nd -> ByteArray) (c6:∀ G ∈ Gs,RdT 53 G (fun v => #[v]) (.tuple #[.string (E G),.int .i64 0])) (hJ1:(Atm.catB (Gs.map E)).size <= 140737488355328):DecI 29 s xs ps y2.d (Atm.catB (Gs.map E)) 0:=by
 have hJ2:(Gs.map E).length <= 140737488355328:=by rw [List.length_map]; omega
 have HC6:=lH c6;clear c6;have HQ:=lH hq;have HNS:=lH hNs;clear hq hNs;intro w;have hr:=lH (show HR w w.heap.size #[.slice none 0 0,.slice none 0 0,.string ⟨#[]⟩,.string ⟨#[]⟩] 48 (w.alloc (.cells #[.slice none 0 0,.slice none 0 0,.string ⟨#[]⟩,.string ⟨#[]⟩] 48)) from ⟨heap_alloc_new w _⟩);have HS:=lH ((Since.refl w).alloc (.cells #[.slice none 0 0,.slice none 0 0,.string ⟨#[]⟩,.string ⟨#[]⟩] 48))
 go_enter Tryz.func29,Tryz.ntmps29
 go_wp2_with fail;refine (d1 _).mono ?_;rintro _ w1 ⟨u1,rfl,hU,h1⟩;replace hU:=hU.tree;obtain ⟨A1,q1,e1,-,-⟩:=hU.slice;subst e1;replace HS:=lH (HS.out.step h1);replace hr:=lH (hr.out.step h1);have r1:(w1.alloc (.cells #[.int .i64 0,.int .i64 0] 65)).heap[w1.heap.size]? = some (.cells #[.int .i64 0,.int .i64 0] 65 (0,0)):=heap_alloc_new w1 _;have hb:=lH (hb_row (K:=KT) (C':=#[.int .i64 C,.int .i64 P]) ((Since.refl w1).alloc _) (Nat.le_refl _) trivial r1);have y0:=hb.out.cell 0 _ rfl;have hlw:w.heap.size < w1.heap.size:=(Array.getElem?_eq_some_iff.1 hr.out.row).1;replace HS:=lH (HS.out.step hb.out.since);replace hr:=lH (hr.out.step hb.out.since);have HU:=lH (hU.since hb.out.since);obtain ⟨n0,hn0⟩:∃ n,n = N.length:=⟨_,rfl⟩
 rw [<- hn0] at HU ⊢;have HN0:=lH hn0;clear hU h1 hn0;go_wp2_with (refine RwL.at_store (ty:=65) rfl ?_; refine wpList_store_row rfl 65 _ _ rfl w1.heap.size #[.int .i64 C,.int .i64 P] (by rfl) (by rfl) _ _ r1 (f2_info C P) rfl (f2_one C P) ?_; generalize hw2:(w1.alloc (.cells #[.int .i64 0,.int .i64 0] 65)).setRow w1.heap.size #[.int .i64 C,.int .i64 P] = w2 at HS hr HU y0 ⊢; clear hw2 r1 hb)
 refine (c1 _ _ HU.out).mono ?_;rintro _ w3 ⟨v3,rfl,t3,h3⟩;replace HS:=lH (HS.out.step h3);replace hr:=lH (hr.out.step h3);replace HU:=lH (HU.out.since h3);obtain ⟨A3,q3,rfl,-,-⟩:=t3.slice;have HP:=lH t3;obtain ⟨p0,hp0⟩:∃ n,n = Ns.length:=⟨_,rfl⟩
 rw [<- hp0] at HP ⊢;have HPN:=lH hp0;clear h3 t3 y0 hp0;go_wp2_with fail;have hb:=(Since.refl w3).alloc (.cells #[.int .i64 16] 3);refine (is_rd _ _ 0 [16] (by decide) true HQ.out _ _ _ ((fst_tree HU.out hx0).since hb) (tags_lit w3 16)).mono ?_;rintro _ w4 ⟨rfl,h4⟩;replace HS:=lH ((HS.out.step hb).step h4);replace hr:=lH ((hr.out.step hb).step h4);replace HP:=lH ((HP.out.since hb).since h4);clear hb h4 HU;obtain rfl:p0 = 4:=by rw [HPN.out,HNS.out]; rfl
 clear HPN;go_wp2_with fail;refine (c2 _ _ HP.out).mono ?_;rintro _ w5 ⟨rfl,h5⟩;replace HS:=lH (HS.out.step h5);replace hr:=lH (hr.out.step h5);replace HP:=lH (HP.out.since h5);rw [HNS.out] at HP;clear h5;obtain ⟨bp,op,cp,e1,lp,hp⟩:=HP.out.form (by show 0 < 4; omega);obtain ⟨rfl,-,rfl⟩:=Value.slice.inj e1;obtain ⟨z1,m1,T1⟩:=hp 1 N1 rfl;obtain ⟨z2,m2,T2⟩:=hp 2 N2 rfl;obtain ⟨A4,q4,rfl,-,-⟩:=T1.slice;obtain ⟨A5,q5,rfl,-,-⟩:=T2.slice;obtain ⟨b1,o1,rfl,-,l1,g4⟩:=Atf.at_data T1 1 y4 hy4;obtain ⟨b1',o1',e2,-,-,g5⟩:=Atf.at_data T1 2 y5 hy5;cases e2;obtain ⟨b2,o2,rfl,-,l2,g2⟩:=Atf.at_data T2 0 y2 hy2;obtain ⟨z3,m3,T3⟩:=hp 3 N3 rfl; obtain ⟨A6,q6,rfl,-,-⟩:=T3.slice; have M3:=lH (And.intro lp m3); have HT3:=lH T3; clear m3 T3;rw [Nat.zero_mul,Nat.add_zero] at g2;rw [show o1 + 1 * 5 + 3 = o1 + 5 + 3 by omega] at g4;rw [show o1 + 2 * 5 + 3 = o1 + 10 + 3 by omega] at g5;have G5:=lH (Dt.mk l1 g5);have i1:(2:Int) < (N1.length:Int):=by have:=(List.getElem?_eq_some_iff.1 hy5).1; omega
 have i0:(1:Int) < (N1.length:Int):=by omega
 have i2:(0:Int) < (N2.length:Int):=by have:=(List.getElem?_eq_some_iff.1 hy2).1; omega
 obtain ⟨n1,hn1⟩:∃ n,n = N1.length:=⟨_,rfl⟩
 obtain ⟨n2,hn2⟩:∃ n,n = N2.length:=⟨_,rfl⟩
 rw [<- hn1] at i1 i0 m1;rw [<- hn2] at i2 m2;have G4:=lH (Dt.mk l1 g4);have hwl:w.heap.size < w5.heap.size:=(Array.getElem?_eq_some_iff.1 hr.out.row).1;have hr5:Hid (HR w w.heap.size #[.slice none 0 0,.slice none 0 0,.string ⟨#[]⟩,.string ⟨#[]⟩] 48 (w5.alloc (.cells #[.slice none 0 0,.slice none 0 0,.string ⟨#[]⟩,.string ⟨#[]⟩] 48))):=lH (hr_old hr.out _);have r5:(w5.alloc (.cells #[.slice none 0 0,.slice none 0 0,.string ⟨#[]⟩,.string ⟨#[]⟩] 48)).heap[w5.heap.size]? = some (.cells #[.slice none 0 0,.slice none 0 0,.string ⟨#[]⟩,.string ⟨#[]⟩] 48 (0,0)):=heap_alloc_new w5 _;have HS5:=lH (HS.out.alloc (.cells #[.slice none 0 0,.slice none 0 0,.string ⟨#[]⟩,.string ⟨#[]⟩] 48));have H55:Hid (Since w5 (w5.alloc (.cells #[.slice none 0 0,.slice none 0 0,.string ⟨#[]⟩,.string ⟨#[]⟩] 48))):=lH ((Since.refl w5).alloc _);clear e1 lp hp T1 T2 l1 l2 hn1 hn2 g4 g5;go_wp2_with (refine RwL.at_store (ty:=48) rfl ?_; refine wpList_store_row rfl 48 _ _ rfl w5.heap.size #[.slice none 0 0,.slice none 0 0,.string y2.d,.string ⟨#[]⟩] (by rfl) (by rfl) _ _ r5 (i4_info _ _ _ _) rfl (i4_one _ _ _ _ _ _ _ _) ?_; have hi6:=lH (hi_mk w r5 #[.slice none 0 0,.slice none 0 0,.string y2.d,.string ⟨#[]⟩]); have hr6:=lH (hr_oth hr5.out (show w.heap.size ≠ w5.heap.size by omega) #[.slice none 0 0,.slice none 0 0,.string y2.d,.string ⟨#[]⟩]); have HS6:=lH (since_row HS5.out (Nat.le_of_lt hwl) #[.slice none 0 0,.slice none 0 0,.string y2.d,.string ⟨#[]⟩]); have H56:=lH (since_row H55.out (Nat.le_refl _) #[.slice none 0 0,.slice none 0 0,.string y2.d,.string ⟨#[]⟩]); generalize (w5.alloc (.cells #[.slice none 0 0,.slice none 0 0,.string ⟨#[]⟩,.string ⟨#[]⟩] 48)).setRow w5.heap.size #[.slice none 0 0,.slice none 0 0,.string y2.d,.string ⟨#[]⟩] = w6 at hi6 hr6 HS6 H56 ⊢; have g4:=(G4.out.since H56.out).cell; clear r5 hr5 HS5 H55 hr HS m1 m2 g2)
 refine (c3 w6).mono ?_;rintro _ w7 ⟨va,rfl,hva,h7⟩;obtain ⟨Aa,qa',ea,-,-⟩:=hva.slice;subst ea;obtain ⟨nx,hnx⟩:∃ n,n = xs.length:=⟨_,rfl⟩
 rw [<- hnx] at hva ⊢;have HVA:=lH hva;replace HS6:=lH (HS6.out.step h7);replace hr6:=lH (hr6.out.step h7);replace hi6:=lH (hi6.out.step h7);replace H56:=lH (H56.out.step h7);have k0:w7.cell? ⟨w5.heap.size,0,none⟩ = some (.slice none 0 0):=hr_cell hi6.out 0 _ rfl;have f0:=hr_free hi6.out 0;have H8:Hid (Since w5 (w7.setCell ⟨w5.heap.size,0,none⟩ (.slice Aa nx qa'))):=lH (since_cell H56.out (Nat.le_refl _) 0 _);have hi8:Hid (HR w w5.heap.size #[.slice Aa nx qa',.slice none 0 0,.string y2.d,.string ⟨#[]⟩] 48 (w7.setCell ⟨w5.heap.size,0,none⟩ (.slice Aa nx qa'))):=lH (hr_set hi6.out 0 _);have hr8:Hid (HR w w.heap.size #[.slice none 0 0,.slice none 0 0,.string ⟨#[]⟩,.string ⟨#[]⟩] 48 (w7.setCell ⟨w5.heap.size,0,none⟩ (.slice Aa nx qa'))):=lH (hr_low hr6.out hi6.out (by omega) _ _);have HS8:=lH (since_cell HS6.out (Nat.le_of_lt hwl) 0 (.slice Aa nx qa'));have HVA8:Hid (IntsS (w7.setCell ⟨w5.heap.size,0,none⟩ (.slice Aa nx qa')) (.slice Aa nx qa') xs):=lH (ints_set hi6.out (i4_ints _ _ _ _ _ _ _ _) 0 _ hva);have g5:=(G5.out.since H8.out).cell;clear h7 hva hnx G4 g4
 skip
 go_wp2_with fail;generalize w7.setCell ⟨w5.heap.size,0,none⟩ (.slice Aa nx qa') = w8 at H8 hi8 hr8 HS8 HVA8 ⊢;clear k0 f0 g5 HVA H56 hi6 hr6 HS6;refine (c4 w8).mono ?_;rintro _ w9 ⟨vb,rfl,hvb,h9⟩;obtain ⟨Ab,qb',eb,-,-⟩:=hvb.slice;subst eb;obtain ⟨ny,hny⟩:∃ n,n = ps.length:=⟨_,rfl⟩
 rw [<- hny] at hvb ⊢;replace HS8:=lH (HS8.out.step h9);replace hr8:=lH (hr8.out.step h9);replace hi8:=lH (hi8.out.step h9);replace H8:=lH (H8.out.step h9);replace HVA8:=lH (HVA8.out.since h9);have k1:w9.cell? ⟨w5.heap.size,1,none⟩ = some (.slice none 0 0):=hr_cell hi8.out 1 _ rfl;have f1:=hr_free hi8.out 1;have H10:Hid (Since w5 (w9.setCell ⟨w5.heap.size,1,none⟩ (.slice Ab ny qb'))):=lH (since_cell H8.out (Nat.le_refl _) 1 _);have hi10:Hid (HR w w5.heap.size #[.slice Aa nx qa',.slice Ab ny qb',.string y2.d,.string ⟨#[]⟩] 48 (w9.setCell ⟨w5.heap.size,1,none⟩ (.slice Ab ny qb'))):=lH (hr_set hi8.out 1 _);have hr10:Hid (HR w w.heap.size #[.slice none 0 0,.slice none 0 0,.string ⟨#[]⟩,.string ⟨#[]⟩] 48 (w9.setCell ⟨w5.heap.size,1,none⟩ (.slice Ab ny qb'))):=lH (hr_low hr8.out hi8.out (by omega) _ _);have HS10:=lH (since_cell HS8.out (Nat.le_of_lt hwl) 1 (.slice Ab ny qb'));have HVA10:Hid (IntsS (w9.setCell ⟨w5.heap.size,1,none⟩ (.slice Ab ny qb')) (.slice Aa nx qa') xs):=lH (ints_set hi8.out (i4_ints _ _ _ _ _ _ _ _) 1 _ HVA8.out);have HVB10:Hid (IntsS (w9.setCell ⟨w5.heap.size,1,none⟩ (.slice Ab ny qb')) (.slice Ab ny qb') ps):=lH (ints_set hi8.out (i4_ints _ _ _ _ _ _ _ _) 1 _ hvb);clear h9 hvb hny H8 hi8 hr8 HS8 HVA8;have m3:=(Below.cell H10.out (p:=⟨bp,op + 3,none⟩) M3.out.1).trans M3.out.2;go_wp2_with fail;generalize w9.setCell ⟨w5.heap.size,1,none⟩ (.slice Ab ny qb') = w10 at H10 hi10 hr10 HS10 HVA10 HVB10 ⊢;clear k1 f1;refine (c5 _ _ (HT3.out.since H10.out)).mono ?_;rintro _ wc ⟨v5,rfl,t5,h5⟩;replace HS10:=lH (HS10.out.step h5);replace hr10:=lH (hr10.out.step h5);replace hi10:=lH (hi10.out.step h5);replace HVA10:=lH (HVA10.out.since h5);replace HVB10:=lH (HVB10.out.since h5);obtain ⟨A7,q7,rfl,-,-⟩:=t5.slice;have HG:=lH t5;obtain ⟨n,hn⟩:∃ n,n = Gs.length:=⟨_,rfl⟩
 have HN:=lH hn;rw [<- hn] at HG hGl ⊢;clear h5 t5 hn m3 H10 HT3 M3;go_wp2_with fail;go_loopw [9,73] (fun V i wr => ∃ k:Nat,k <= n /\ i = .int .i64 (k:Int) /\ Hid (Atf.SRow wc wr V ((Gs.take k).map E)) /\ Hid (Since wc wr)) (fun _ i _ => n - (intOf i).toNat)
 case atStart => exact ⟨0,Nat.zero_le _,rfl,lH (Atf.SRow.nil _ _),lH (Since.refl wc)⟩
 case round =>
   obtain ⟨k,hk,rfl,HR,HT⟩:=hrel;obtain ⟨VA,vc,rfl,-⟩:=HR.out.val;have hkl:((Gs.take k).map E).length = k:=by rw [List.length_map,List.length_take,Nat.min_eq_left (by rw [<- HN.out]; exact hk)]
   rw [hkl] at HR ⊢
   by_cases hlt:k < n
   · obtain ⟨G,hG⟩:∃ G,Gs[k]? = some G:=⟨Gs[k]'(by rw [<- HN.out]; exact hlt),List.getElem?_eq_getElem _⟩
     obtain ⟨bq,oq,cq,eq,lq,hx⟩:=(show TreesS wc (.slice A7 Gs.length q7) Gs by rw [<- HN.out]; exact HG.out).form (by rw [<- HN.out]; omega);obtain ⟨rfl,-,-⟩:=Value.slice.inj eq;obtain ⟨x,mx,TX⟩:=hx k G hG;obtain ⟨AX,qx,rfl,-,-⟩:=TX.slice;have m0:=(Below.cell HT.out (p:=⟨bq,oq + k,none⟩) lq).trans mx;have ce:=HC6.out G (List.mem_of_getElem? hG);have HTX:=lH (TX.since HT.out);have HST:=lH (show (Gs.take (k + 1)).map E = (Gs.take k).map E ++ [E G] by rw [Att.take_snoc Gs k _ hG,List.map_append]; rfl);have i1:(0:Int) <= (k:Int):=by omega
     have i2:(k:Int) < (n:Int):=by omega
     obtain ⟨e,he⟩:∃ e,e = E G:=⟨_,rfl⟩
     obtain ⟨ng,hng⟩:∃ n,n = G.length:=⟨_,rfl⟩
     rw [<- he] at ce HST;rw [<- hng] at m0 HTX;clear hG eq hx mx TX he hng;go_wp2_with fail;refine ce.calls0 HTX.out ?_;intro w2 h2;have HR1:=lH (HR.out.since h2);have HS1:=lH (HT.out.step h2);have HB1:=lH (show k + 1 <= maxLen by unfold maxLen; omega);have HB2:=lH (show (k + 1) * 16 <= 140737488355328 by omega);have HR9:=lH (show Rw.Rows w2 wc.heap.size (([]:List Row) ++ ⟨9,1,.slice VA k vc,k,((Gs.take k).map E).map Value.string⟩ :: []) by have h9:=HR1.out; unfold Atf.SRow at h9; rw [hkl] at h9; exact h9);clear h2 HR HT HR1 m0 HTX;go_wp2_with (at_builtin; refine app_rows elemS rfl _ _ (by rfl) wc w2 _ rfl [] [] _ k _ (by rfl) HR9.out HS1.out #[.string e] 1 1 (by rfl) rfl (Atf.s_one e) HB1.out HB2.out ?_; intro V2 w4 HQ2 HT2 _)
     have HF:Hid (Atf.SRow wc w4 V2 ((Gs.take (k + 1)).map E)):=lH (by
       rw [HST.out];exact Atf.SRow.app e (by rw [hkl]; exact HQ2))
     have HS4:=lH HT2;clear HQ2 HT2;go_wp2_with fail;go_roundw
     case rel => exact ⟨k + 1,by omega,by go_num,HF,HS4⟩
     case measure => (simp [intOf] <;> omega)
   · obtain rfl:n = k:=by omega
     have ht:Gs.take n = Gs:=by rw [HN.out,List.take_length]
     have hv:StrsS wr (.slice VA n vc) (Gs.map E):=by have h9:=HR.out.strs; rw [ht] at h9; rw [show (.slice VA n vc:Value) = .slice VA n vc from rfl]; exact h9
     have HV:=lH hv;replace HS10:=lH (HS10.out.step HT.out);replace hr10:=lH (hr10.out.step HT.out);replace hi10:=lH (hi10.out.step HT.out);replace HVA10:=lH (HVA10.out.since HT.out);replace HVB10:=lH (HVB10.out.since HT.out);clear hv HR HT ht hkl;go_wp2_with fail;refine (Atf.join_rd (Gs.map E) hJ1 hJ2 wr _ HV.out).mono ?_;rintro _ wj ⟨rfl,hj⟩;replace HS10:=lH (HS10.out.step hj);replace hr10:=lH (hr10.out.step hj);replace hi10:=lH (hi10.out.step hj);replace HVA10:=lH (HVA10.out.since hj);replace HVB10:=lH (HVB10.out.since hj);clear hj;have k3:wj.cell? ⟨w5.heap.size,3,none⟩ = some (.string ⟨#[]⟩):=hr_cell hi10.out 3 _ rfl;have f3:=hr_free hi10.out 3;obtain ⟨wk,hwk⟩:∃ W,W = wj.setCell ⟨w5.heap.size,3,none⟩ (.string (Atm.catB (Gs.map E))):=⟨_,rfl⟩
     have hi12:Hid (HR w w5.heap.size #[.slice Aa nx qa',.slice Ab ny qb',.string y2.d,.string (Atm.catB (Gs.map E))] 48 (wj.setCell ⟨w5.heap.size,3,none⟩ (.string (Atm.catB (Gs.map E))))):=lH (hr_set hi10.out 3 _);have hr12:Hid (HR w w.heap.size #[.slice none 0 0,.slice none 0 0,.string ⟨#[]⟩,.string ⟨#[]⟩] 48 (wj.setCell ⟨w5.heap.size,3,none⟩ (.string (Atm.catB (Gs.map E))))):=lH (hr_low hr10.out hi10.out (by omega) _ _);have HS12:=lH (since_cell HS10.out (Nat.le_of_lt hwl) 3 (.string (Atm.catB (Gs.map E))));have HVA12:=lH (ints_set hi10.out (i4_ints _ _ _ _ _ _ _ _) 3 (.string (Atm.catB (Gs.map E))) HVA10.out);have HVB12:=lH (ints_set hi10.out (i4_ints _ _ _ _ _ _ _ _) 3 (.string (Atm.catB (Gs.map E))) HVB10.out);clear HS10 hr10 hi10 HVA10 HVB10;have l0:(wj.setCell ⟨w5.heap.size,3,none⟩ (.string (Atm.catB (Gs.map E)))).cell? ⟨w5.heap.size,0,none⟩ = some (.slice Aa nx qa'):=hr_cell hi12.out 0 _ rfl;have l1:(wj.setCell ⟨w5.heap.size,3,none⟩ (.string (Atm.catB (Gs.map E)))).cell? ⟨w5.heap.size,1,none⟩ = some (.slice Ab ny qb'):=hr_cell hi12.out 1 _ rfl;have l2:(wj.setCell ⟨w5.heap.size,3,none⟩ (.string (Atm.catB (Gs.map E)))).cell? ⟨w5.heap.size,2,none⟩ = some (.string y2.d):=hr_cell hi12.out 2 _ rfl;have l3:(wj.setCell ⟨w5.heap.size,3,none⟩ (.string (Atm.catB (Gs.map E)))).cell? ⟨w5.heap.size,3,none⟩ = some (.string (Atm.catB (Gs.map E))):=hr_cell hi12.out 3 _ rfl;clear hi12;go_wp2_with (refine RwL.at_store (ty:=48) rfl ?_; refine wpList_store_row rfl 48 _ _ rfl w.heap.size #[.slice Aa nx qa',.slice Ab ny qb',.string y2.d,.string (Atm.catB (Gs.map E))] (by rfl) (by rfl) _ _ hr12.out.row (i4_info _ _ _ _) rfl (i4_one _ _ _ _ _ _ _ _) ?_)
     exact bodyPost_ret (v:=.tuple #[.agg #[.slice Aa nx qa',.slice Ab ny qb',.string y2.d,.string (Atm.catB (Gs.map E))],.int .i64 0]) (results_cell_tmp2 Tryz.results29 _ _ _ _ _ _ _ _ rfl rfl (setRow_heap _ _ _ _ _ _ hr12.out.row) Tryz.underlying48 rfl (i4_info _ _ _ _)) rfl ⟨_,_,rfl,ints_row hr12.out (i4_ints _ _ _ _ _ _ _ _) _ HVA12.out,ints_row hr12.out (i4_ints _ _ _ _ _ _ _ _) _ HVB12.out,since_row HS12.out (Nat.le_refl _) _⟩
end Pk
namespace Pk
open Tlv Tree Strs Rw
theorem part_cnt (g:F):∀ p ∈ parts g,p.cnt <= g.cnt /\ p.enc.length <= g.enc.length:=by
 induction g with
 | nil => intro p h; cases h
 | prim c t d nx ih =>
   intro p h;have e1:(F.prim c t d nx).enc = (F.prim c t d .nil).enc ++ nx.enc:=by
     show Head.encL c t false d.size ++ d.data.toList ++ nx.enc = Head.encL c t false d.size ++ d.data.toList ++ [] ++ nx.enc
     rw [List.append_nil]
   have e2:(F.prim c t d nx).cnt = 1 + nx.cnt:=rfl;have e3:(F.prim c t d .nil).cnt = 1 + 0:=rfl;rcases List.mem_cons.1 (show p ∈ F.prim c t d .nil :: parts nx from h) with rfl | h
   · rw [e1,List.length_append]; omega
   · have:=ih p h; rw [e1,List.length_append]; omega
 | cons c t ks nx _ ih =>
   intro p h;have e1:(F.cons c t ks nx).enc = (F.cons c t ks .nil).enc ++ nx.enc:=by
     show Head.encL c t true ks.enc.length ++ ks.enc ++ nx.enc = Head.encL c t true ks.enc.length ++ ks.enc ++ [] ++ nx.enc
     rw [List.append_nil]
   have e2:(F.cons c t ks nx).cnt = 1 + ks.cnt + nx.cnt:=rfl;have e3:(F.cons c t ks .nil).cnt = 1 + ks.cnt + 0:=rfl;rcases List.mem_cons.1 (show p ∈ F.cons c t ks .nil :: parts nx from h) with rfl | h
   · rw [e1,List.length_append]; omega
   · have:=ih p h; rw [e1,List.length_append]; omega
theorem part_is {c t:Nat} {ks p:F} (h:IsT rightB ((F.cons c t ks .nil).flat 0) (.cons c t ks .nil)) (hp:p ∈ parts ks):IsT rightB (p.flat 0) p:=by
 obtain ⟨j,hj⟩:=List.mem_iff_getElem?.1 hp;obtain ⟨s1,o1,d1,-⟩:=parts_at rightB ks 0 j p h.ok.2.2.2.1 hj;have hl:=h.len;rw [F.flat_len] at hl;have e2:(F.cons c t ks .nil).cnt = 1 + ks.cnt + 0:=rfl;have hd:=h.deep;have e3:(F.cons c t ks .nil).deep = max (ks.deep + 1) 0:=rfl;have:=(part_cnt ks p hp).1;exact ⟨o1,s1,rfl,by omega,by rw [F.flat_len]; omega⟩
theorem small_of {g:F} (h1:g.cnt <= 100000) (h2:g.enc.length <= 100000):Small (g.flat 0):=⟨by rw [F.flat_len]; exact h1,fun x hx => Nat.le_trans (size_le g 0 x hx) h2⟩
theorem parts_len (g:F):(parts g).length <= g.cnt:=by
 induction g with
 | nil => exact Nat.le_refl _
 | prim c t d nx ih => show (parts nx).length + 1 <= 1 + nx.cnt; omega
 | cons c t ks nx _ ih => show (parts nx).length + 1 <= 1 + ks.cnt + nx.cnt; omega
theorem parts_join:∀ (gs:List F),(∀ x ∈ gs,single x) -> parts (join gs) = gs:=by
 intro gs
 induction gs with
 | nil => intro _; rfl
 | cons g l ih =>
   intro h;have h1:=h g (by simp);have h2:=ih fun x hx => h x (by simp [hx])
   show parts (g.app (join l)) = g :: l
   cases g with
   | nil => exact absurd h1 (by intro h; exact h)
   | prim c t d nx =>
     cases (show nx = .nil from h1)
     show F.prim c t d .nil :: parts (join l) = _
     rw [h2]
   | cons c t ks nx =>
     cases (show nx = .nil from h1)
     show F.cons c t ks .nil :: parts (join l) = _
     rw [h2]
open Classical in
noncomputable def eF (G:List Nd):ByteArray:=if h:∃ p,single p /\ p.flat 0 = G then bs (Classical.choose h).enc else ⟨#[]⟩
theorem eF_is {p:F} (hs:single p):eF (p.flat 0) = bs p.enc:=by
 unfold eF;have h:∃ q,single q /\ q.flat 0 = p.flat 0:=⟨p,hs,rfl⟩
 rw [dif_pos h,flat_inj (Classical.choose_spec h).1 hs (Classical.choose_spec h).2]
theorem dec_t (s:ByteArray) (hm:s.size <= 65535) (c p:Nat) (N:List Nd) (S:List (Nat × Nat)) (ht:topV s = (c,p,N,S)):DecT s (c:Int) (p:Int) N:=fun w => dec_n s (by unfold maxLen; omega) c p N S ht w
theorem pdecode_err (s:ByteArray) (hm:s.size <= 65535) (c p:Nat) (ht:top rightB s = .error (c,p)):DecI 29 s [] [] ⟨#[]⟩ ⟨#[]⟩ (c:Int):=by
 have hc:=(top_err_ok ht).1;exact pdec_1 s _ _ (bne_iff_ne.2 (by omega)) [] (dec_t s hm c p _ _ (show topV s = (c,p,[],[]) by unfold topV; rw [ht]))
theorem top_small {s:ByteArray} {g:F} (hm:s.size <= 65535) (ht:top rightB s = .ok g):IsT rightB (g.flat 0) g /\ Small (g.flat 0) /\ g.enc.length = s.size /\ DecT s 0 0 (g.flat 0):=by
 obtain ⟨h1,h2⟩:=top_is ht;have h3:g.enc.length = s.size:=by rw [h2]; rfl
 have h4:=cnt_le g;exact ⟨h1,small_of (by omega) (by omega),h3,dec_t s hm 0 0 _ _ (show topV s = (0,0,g.flat 0,g.spans 0) by unfold topV; rw [ht])⟩
theorem pdecode_not (s:ByteArray) (hm:s.size <= 65535) (g:F) (ht:top rightB s = .ok g) (hn:¬ IsPk g):DecI 29 s [] [] ⟨#[]⟩ ⟨#[]⟩ 5:=by
 obtain ⟨hg,hs,-,hd⟩:=top_small hm ht;obtain ⟨x0,hx0⟩:=flat_first hg.one;obtain ⟨Ns,h1,h2,h3⟩:=kids_mk hg hs x0 hx0;cases hq:tagsB x0.c x0.t 0 [16] with
 | false => exact pdec_2 s _ _ rfl _ hd x0 hx0 Ns h3 hq.symm
 | true =>
   refine pdec_3 s _ _ rfl _ hd x0 hx0 Ns h3 hq.symm ?_;cases g with
   | nil => exact absurd hg.one (by intro h; exact h)
   | prim c t d nx =>
     have h9:(⟨c,t,false,d,[]⟩:Nd) = x0:=Option.some.inj hx0;have h8:x0.k = []:=by rw [<- h9]
     rw [h8] at h1;have h7:Ns.length = 0:=h1;exact proper_0 Ns (by omega) (by omega)
   | cons c t ks nx =>
     cases (show nx = .nil from hg.one);have e0:(⟨c,t,true,⟨#[]⟩,ks.tops 1⟩:Nd) = x0:=Option.some.inj hx0;rw [<- e0,tag_is,Bool.and_eq_true,decide_eq_true_eq,decide_eq_true_eq] at hq;have ec:c = 0:=by have:=hq.1; dsimp only at this; omega
     have et:t = 16:=by have:=hq.2; dsimp only at this; omega
     subst ec;subst et;rw [h2 0 16 ks rfl];exact proper_no hg.ok.2.2.2.1 hn
theorem pdecode_yes (s:ByteArray) (hm:s.size <= 65535) (nm:ByteArray) (pt:Nat) (pb key:ByteArray) (gs:List F) (h:Pt nm pt pb gs) (ht:top rightB s = .ok (pkF nm pt pb key gs)):DecI 29 s (Oid.decL nm.data.toList) (Oid.decL pb.data.toList) key (Atm.catB (gs.map fun g => bs g.enc)) 0:=by
 obtain ⟨hg,hs,hl,hd⟩:=top_small hm ht;obtain ⟨ks,e1,e2⟩:=pk_parts nm pt pb key gs;obtain ⟨Ns,-,h2,h3⟩:=kids_mk hg hs ⟨0,16,true,⟨#[]⟩,(F.prim 0 2 ⟨#[0]⟩ (.cons 0 16 (.prim 0 6 nm (.prim 0 pt pb .nil)) (.prim 0 4 key (atsF gs)))).tops 1⟩ rfl;have hNs:=h2 0 16 ks e1;rw [e2] at hNs;have hp:=proper_yes nm pt pb key gs h;rw [<- hNs] at hp;have ho:∀ x ∈ (pkF nm pt pb key gs).flat 0,x.d.size <= 65535:=fun x hx => by have:=size_le _ 0 x hx; omega
 have s1:nm.size <= 65535:=ho ⟨0,6,false,nm,[]⟩ (List.mem_cons_of_mem _ (List.mem_cons_of_mem _ (List.mem_cons_of_mem _ (List.mem_cons_self ..))));have s2:pb.size <= 65535:=ho ⟨0,pt,false,pb,[]⟩ (List.mem_cons_of_mem _ (List.mem_cons_of_mem _ (List.mem_cons_of_mem _ (List.mem_cons_of_mem _ (List.mem_cons_self ..)))));have c3:=Oid.decode_mk nm (by omega) _ _ rfl rfl;have c4:=Oid.decode_mk pb (by omega) _ _ rfl rfl;have hx0:((pkF nm pt pb key gs).flat 0)[0]? = some ⟨0,16,true,⟨#[]⟩,(F.prim 0 2 ⟨#[0]⟩ (.cons 0 16 (.prim 0 6 nm (.prim 0 pt pb .nil)) (.prim 0 4 key (atsF gs)))).tops 1⟩:=rfl;cases gs with
 | nil => exact pdec_4 s _ _ rfl _ hd _ hx0 _ _ _ Ns hNs h3 rfl hp ⟨0,4,false,key,[]⟩ ⟨0,6,false,nm,[]⟩ ⟨0,pt,false,pb,[]⟩ rfl rfl rfl _ _ _ _ c3 c4
 | cons g l =>
   have hNs2:Ns = [[⟨0,2,false,⟨#[0]⟩,[]⟩],(algF nm pt pb).flat 0,[⟨0,4,false,key,[]⟩],(F.cons 2 0 (join (g :: l)) .nil).flat 0]:=by rw [hNs]; unfold pkP; rw [if_neg (by simp)]; rfl
   have hA:(F.cons 2 0 (join (g :: l)) .nil) ∈ parts ks:=by
     have e9:F.cons 0 16 (.prim 0 2 ⟨#[0]⟩ (.cons 0 16 (.prim 0 6 nm (.prim 0 pt pb .nil)) (.prim 0 4 key (atsF (g :: l))))) .nil = F.cons 0 16 ks .nil:=e1;injection e9 with _ _ e9
     rw [<- e9];exact List.mem_cons_of_mem _ (List.mem_cons_of_mem _ (List.mem_cons_of_mem _ (List.mem_cons_self ..)))
   rw [e1] at hg hl;have hIA:=part_is hg hA;have hea:=(part_cnt ks _ hA).2;have hek:ks.enc.length <= (F.cons 0 16 ks .nil).enc.length:=by
     show ks.enc.length <= (Head.encL 0 16 true ks.enc.length ++ ks.enc ++ []).length
     rw [List.length_append,List.length_append];omega
   have hca:=hIA.len;rw [F.flat_len] at hca;have hsA:Small ((F.cons 2 0 (join (g :: l)) .nil).flat 0):=small_of (by omega) (by omega);obtain ⟨Gs,g1,g2,g3⟩:=kids_mk hIA hsA ⟨2,0,true,⟨#[]⟩,(join (g :: l)).tops 1⟩ rfl;have hPJ:parts (join (g :: l)) = g :: l:=parts_join _ fun x hx => (h.gsR x hx).1
   have hGs:Gs = (g :: l).map fun p => p.flat 0:=by rw [g2 2 0 _ rfl,hPJ]
   have hpart:∀ p ∈ g :: l,IsT rightB (p.flat 0) p /\ p.enc.length <= 65535 /\ p.cnt <= 1000:=fun p hp => by
     have q1:=part_is hIA (by rw [hPJ]; exact hp);have q2:=part_cnt (join (g :: l)) p (by rw [hPJ]; exact hp);have q3:(join (g :: l)).enc.length <= (F.cons 2 0 (join (g :: l)) .nil).enc.length:=by
       show (join (g :: l)).enc.length <= (Head.encL 2 0 true (join (g :: l)).enc.length ++ (join (g :: l)).enc ++ []).length
       rw [List.length_append,List.length_append];omega
     have q4:=q1.len;rw [F.flat_len] at q4;exact ⟨q1,by omega,q4⟩
   have hmap:Gs.map eF = (g :: l).map fun p => bs p.enc:=by
     rw [hGs,List.map_map];exact List.map_congr_left fun p hp => eF_is (h.gsR p hp).1
   have hcat:(Atm.catB (Gs.map eF)).size <= 140737488355328:=by
     rw [hmap];unfold Atm.catB;rw [size_bs,List.map_map];have e8:(List.map (Setof.dl ∘ fun p => bs p.enc) (g :: l)).flatten = (join (g :: l)).enc:=by rw [join_enc]; rfl
     rw [e8];have q3:(join (g :: l)).enc.length <= (F.cons 2 0 (join (g :: l)) .nil).enc.length:=by
       show (join (g :: l)).enc.length <= (Head.encL 2 0 true (join (g :: l)).enc.length ++ (join (g :: l)).enc ++ []).length
       rw [List.length_append,List.length_append];omega
     omega
   have hlen:Gs.length <= 1000:=by
     rw [hGs,List.length_map,<- hPJ];have q5:=parts_len (join (g :: l));have q6:(F.cons 2 0 (join (g :: l)) .nil).cnt = 1 + (join (g :: l)).cnt + 0:=rfl;omega
   have:=pdec_5 s _ _ rfl _ hd _ hx0 _ _ _ _ Ns hNs2 h3 rfl hp ⟨0,4,false,key,[]⟩ ⟨0,6,false,nm,[]⟩ ⟨0,pt,false,pb,[]⟩ rfl rfl rfl _ _ _ _ c3 c4 Gs hlen g3 eF (fun G hG => by
     rw [hGs] at hG;obtain ⟨p,hp2,rfl⟩:=List.mem_map.1 hG;obtain ⟨q1,q2,q3⟩:=hpart p hp2;have hsp:Small (p.flat 0):=small_of (by omega) (by omega);have c7:=rig_rd _ hsp;rw [is_right q1] at c7;rw [eF_is (h.gsR p hp2).1];exact enc_yes _ _ _ (wr_of q1) q2 hsp q1.len (fair_of q1).kids c7) hcat
   rw [hmap] at this;exact this
end Pk
namespace Pk
open Tlv Tree Strs Rw
theorem nm_right {nm:ByteArray} (h:rightB 6 nm = true):Oid.Ok (Oid.decL nm.data.toList) /\ bs (Oid.enc (Oid.decL nm.data.toList)) = nm:=by
 have h1:Oid.decB nm.data.toList = true:=h;obtain ⟨h2,h3⟩:=(Oid.dec_iff nm.data.toList _).1 ⟨h1,rfl⟩;refine ⟨h2, ?_⟩;rw [h3];exact ba_ext rfl
theorem nm_ok {xs:List Int} (h:Oid.Ok xs):rightB 6 (bs (Oid.enc xs)) = true /\ Oid.decL (bs (Oid.enc xs)).data.toList = xs:=by
 obtain ⟨h1,h2⟩:=(Oid.dec_iff (Oid.enc xs) xs).2 ⟨h,rfl⟩;have e:(bs (Oid.enc xs)).data.toList = Oid.enc xs:=rfl;rw [e];exact ⟨h1,h2⟩
theorem dec_empty:Oid.decL (⟨#[]⟩:ByteArray).data.toList = []:=by decide +kernel
theorem par_right {pt:Nat} {pb:ByteArray} (hp:pt = 5 ∨ pt = 6) (h:rightB (pt:Int) pb = true):parT (Oid.decL pb.data.toList) = pt /\ parB (Oid.decL pb.data.toList) = pb /\ ((Oid.decL pb.data.toList).length = 0 ∨ Oid.Ok (Oid.decL pb.data.toList)):=by
 rcases hp with rfl | rfl
 · have h1:decide (pb = ⟨#[]⟩) = true:=h;rw [of_decide_eq_true h1,dec_empty];exact ⟨rfl,rfl,Or.inl rfl⟩
 · obtain ⟨h1,h2⟩:=nm_right h;have h3:=((Oid.ok_iff _).1 h1).1;unfold parT parB;rw [if_neg (by omega),if_neg (by omega)];exact ⟨rfl,h2,Or.inr h1⟩
theorem par_ok {ps:List Int} (h:ps.length = 0 ∨ Oid.Ok ps):(parT ps = 5 ∨ parT ps = 6) /\ rightB (parT ps:Int) (parB ps) = true /\ Oid.decL (parB ps).data.toList = ps:=by
 unfold parT parB
 by_cases h0:ps.length = 0
 · rw [if_pos h0,if_pos h0,List.length_eq_zero_iff.1 h0];exact ⟨Or.inl rfl,by decide +kernel,dec_empty⟩
 · rw [if_neg h0,if_neg h0];have hk:Oid.Ok ps:=by rcases h with h | h; exact absurd h h0; exact h
   exact ⟨Or.inr rfl,nm_ok hk⟩
def catF (gs:List F):ByteArray:=Atm.catB (gs.map fun g => bs g.enc)
theorem cat_is (gs:List F):catF gs = bs (gs.map F.enc).flatten:=by
 unfold catF Atm.catB;rw [List.map_map];rfl
theorem mem_enc (gs:List F):∀ g ∈ gs,g.enc.length <= (gs.map F.enc).flatten.length:=by
 induction gs with
 | nil => intro g h; cases h
 | cons a l ih =>
   intro g h;rw [List.map_cons,List.flatten_cons,List.length_append];rcases List.mem_cons.1 h with rfl | h
   · omega
   · have:=ih g h;omega
theorem ats_cat (gs:List F) (h:∀ g ∈ gs,IsT rightB (g.flat 0) g) (hl:(join gs).enc.length <= 65535):atsOk (catF gs) /\ atsG (catF gs) = gs:=by
 rw [join_enc] at hl;have h1:∀ g ∈ gs,g.enc.length <= 65535:=fun g hg => by
   have:=mem_enc gs g hg;omega
 have hp:=pcs_all gs (fun g hg => ⟨(h g hg).one,(h g hg).ok,h1 g hg⟩) hl;have ht:∀ g ∈ gs,top rightB (bs g.enc) = .ok g:=fun g hg => top_enc (h g hg) (h1 g hg)
 rw [cat_is];unfold atsOk atsG;rw [hp];refine ⟨⟨rfl,fun x hx => ?_⟩, ?_⟩
 · obtain ⟨g,hg,rfl⟩:=List.mem_map.1 hx;unfold okx;rw [ht g hg]
 · dsimp only;rw [List.map_map]
   conv => rhs; rw [<- List.map_id gs]
   exact List.map_congr_left fun g hg => by
     show gOf (bs g.enc) = g
     unfold gOf;rw [ht g hg]
theorem pk_gs {nm:ByteArray} {pt:Nat} {pb key:ByteArray} {gs:List F} (h:IsT rightB (pkN nm pt pb key gs) (pkF nm pt pb key gs)) (hs:∀ g ∈ gs,single g):∀ g ∈ gs,IsT rightB (g.flat 0) g:=by
 cases gs with
 | nil => intro g hg; cases hg
 | cons a l =>
   have h1:=part_is (p:=F.cons 2 0 (join (a :: l)) .nil) (show IsT rightB ((F.cons 0 16 (.prim 0 2 ⟨#[0]⟩ (.cons 0 16 (.prim 0 6 nm (.prim 0 pt pb .nil)) (.prim 0 4 key (.cons 2 0 (join (a :: l)) .nil)))) .nil).flat 0) _ from h) (List.mem_cons_of_mem _ (List.mem_cons_of_mem _ (List.mem_cons_of_mem _ (List.mem_cons_self ..))));intro g hg;exact part_is h1 (by rw [parts_join _ hs]; exact hg)
theorem pk_written {xs ps:List Int} {key attrs:ByteArray} (ha:attrs.size <= 65535) (h:pkOk xs ps key attrs):Pt (bs (Oid.enc xs)) (parT ps) (parB ps) (atsG attrs) /\ IsT rightB ((pkT xs ps key attrs).flat 0) (pkT xs ps key attrs):=by
 obtain ⟨h1,h2,h3,h4⟩:=h;obtain ⟨p1,p2,-⟩:=par_ok h2;exact ⟨⟨(nm_ok h1).1,p1,p2,fun g hg => (ats_is ha h3).1 g hg⟩,pk_is h4⟩
theorem pk_again {nm:ByteArray} {pt:Nat} {pb key:ByteArray} {gs:List F} (h:Pt nm pt pb gs) (hI:IsT rightB (pkN nm pt pb key gs) (pkF nm pt pb key gs)) (hl:(join gs).enc.length <= 65535) :
   pkOk (Oid.decL nm.data.toList) (Oid.decL pb.data.toList) key (catF gs) /\ pkT (Oid.decL nm.data.toList) (Oid.decL pb.data.toList) key (catF gs) = pkF nm pt pb key gs:=by
 obtain ⟨a1,a2⟩:=nm_right h.nmR;obtain ⟨p1,p2,p3⟩:=par_right h.ptR h.pbR;obtain ⟨g1,g2⟩:=ats_cat gs (pk_gs hI fun g hg => (h.gsR g hg).1) hl;have e:pkT (Oid.decL nm.data.toList) (Oid.decL pb.data.toList) key (catF gs) = pkF nm pt pb key gs:=by
   unfold pkT;rw [a2,p1,p2,g2]
 exact ⟨⟨a1,p3,g1,by rw [e]; exact is_right hI⟩,e⟩
end Pk
namespace Pk
open Tlv Tree Strs Rw
set_option maxHeartbeats 4000000 in
theorem same_rd (xs ps:List Int) (key attrs:ByteArray) (c1:Oid.RdII 72 xs xs (.bool true)) (c2:Oid.RdII 72 ps ps (.bool true)) (_t1:(key.toList == key.toList) = true) (_t2:(attrs.toList == attrs.toList) = true) (w:World) (a b a' b':Value) (ha:IntsS w a xs) (hb:IntsS w b ps) (ha':IntsS w a' xs) (hb':IntsS w b' ps) :
   Calls Tryz.prog 31 #[.agg #[a,b,.string key,.string attrs],.agg #[a',b',.string key,.string attrs]] w fun e w' => e = .returned (.bool true) /\ Since w w':=by
 obtain ⟨A,c,rfl,-,-⟩:=ha.slice;obtain ⟨B,d,rfl,-,-⟩:=hb.slice;obtain ⟨A',c',rfl,-,-⟩:=ha'.slice;obtain ⟨B',d',rfl,-,-⟩:=hb'.slice;obtain ⟨n,hn⟩:∃ n,n = xs.length:=⟨_,rfl⟩
 obtain ⟨m,hm⟩:∃ n,n = ps.length:=⟨_,rfl⟩
 rw [<- hn] at ha ha' ⊢;rw [<- hm] at hb hb' ⊢;clear hn hm;obtain ⟨w1,hw1⟩:∃ W,W = w.alloc (.cells #[.slice A n c,.slice B m d,.string key,.string attrs] 48):=⟨_,rfl⟩
 have hs1:Since w w1:=by rw [hw1]; exact (Since.refl w).alloc _
 have g1:BX w1 w.heap.size (.slice A n c) (.slice B m d) key attrs:=by rw [hw1]; exact BX.new w _ _ key attrs _
 have hs2:=(Since.refl w1).alloc (.cells #[.slice A' n c',.slice B' m d',.string key,.string attrs] 46);have HB1:=lH (g1.since hs2);have HB2:=lH (BX.new w1 (.slice A' n c') (.slice B' m d') key attrs 46);have HS:=lH (hs1.step hs2);have HA:=lH ((ha.since hs1).since hs2);have HB:=lH ((hb.since hs1).since hs2);have HA':=lH ((ha'.since hs1).since hs2);have HB':=lH ((hb'.since hs1).since hs2);have hz:w1.heap.size = w.heap.size + 1:=by rw [hw1]; simp
 rw [hz] at HB2;rw [hw1] at HB1 HB2 HS HA HB HA' HB';clear hz;obtain ⟨-,b0,b1,b2,b3⟩:=HB1.out;obtain ⟨-,d0,d1,d2,d3⟩:=HB2.out;clear hw1 hs1 g1 hs2 ha hb ha' hb'
 go_enter Tryz.func31,Tryz.ntmps31
 go_wp2_with fail;refine (c1 _ _ _ HA.out HA'.out).mono ?_;rintro _ w2 ⟨rfl,h2⟩;replace HS:=lH (HS.out.step h2);replace HB:=lH (HB.out.since h2);replace HB':=lH (HB'.out.since h2);replace HB1:=lH (HB1.out.since h2);replace HB2:=lH (HB2.out.since h2);clear b0 b1 b2 b3 d0 d1 d2 d3 h2;obtain ⟨-,b0,b1,b2,b3⟩:=HB1.out;obtain ⟨-,d0,d1,d2,d3⟩:=HB2.out;go_wp2_with fail;refine (c2 _ _ _ HB.out HB'.out).mono ?_;rintro _ w3 ⟨rfl,h3⟩;replace HS:=lH (HS.out.step h3);replace HB1:=lH (HB1.out.since h3);replace HB2:=lH (HB2.out.since h3);clear b0 b1 b2 b3 d0 d1 d2 d3 h3;obtain ⟨-,b0,b1,b2,b3⟩:=HB1.out;obtain ⟨-,d0,d1,d2,d3⟩:=HB2.out;go_wp2_with fail;go_ret;exact ⟨rfl,HS.out⟩
set_option maxHeartbeats 4000000 in
theorem awake_core (c1:RdP 27 [2,5] [] ⟨#[107]⟩ ⟨#[]⟩ (.tuple #[.string ⟨#[48,13,2,1,0,48,5,6,1,85,5,0,4,1,107]⟩,.int .i64 0])) (c2:DecI 29 ⟨#[48,13,2,1,0,48,5,6,1,85,5,0,4,1,107]⟩ [2,5] [] ⟨#[107]⟩ ⟨#[]⟩ 0):Mak 26 #[] (.bool true):=by
 intro w;have HS:=lH ((Since.refl w).alloc (.cells #[.int .i64 2,.int .i64 5] 3));have HL:=lH (tags_lit2 w 2 5)
 go_enter Tryz.func26,Tryz.ntmps26
 go_wp2_with fail;refine (c1 _ _ _ HL.out (IntsS.nil _)).mono ?_;rintro _ w1 ⟨rfl,h1⟩;replace HS:=lH (HS.out.step h1);clear HL h1;go_wp2_with fail;refine (c2 _).mono ?_;rintro _ w2 ⟨v1,v2,rfl,hv1,hv2,h2⟩;replace HS:=lH (HS.out.step h2);obtain ⟨A1,q1,rfl,-,-⟩:=hv1.slice;obtain ⟨A2,q2,rfl,-,-⟩:=hv2.slice;clear hv1 hv2 h2;have r1:(w2.alloc (.cells #[.slice none 0 0,.slice none 0 0,.string ⟨#[]⟩,.string ⟨#[]⟩] 48)).heap[w2.heap.size]? = some (.cells #[.slice none 0 0,.slice none 0 0,.string ⟨#[]⟩,.string ⟨#[]⟩] 48 (0,0)):=heap_alloc_new w2 _;replace HS:=lH (since_row (HS.out.alloc (.cells #[.slice none 0 0,.slice none 0 0,.string ⟨#[]⟩,.string ⟨#[]⟩] 48)) (Below.size HS.out) #[.slice A1 2 q1,.slice A2 0 q2,.string ⟨#[107]⟩,.string ⟨#[]⟩]);have hi:=hi_mk w r1 #[.slice A1 2 q1,.slice A2 0 q2,.string ⟨#[107]⟩,.string ⟨#[]⟩];have k0:=hr_cell hi 0 _ rfl;have k2:=hr_cell hi 2 _ rfl;clear hi;go_wp2_with (refine RwL.at_store (ty:=48) rfl ?_; refine wpList_store_row rfl 48 _ _ rfl w2.heap.size #[.slice A1 2 q1,.slice A2 0 q2,.string ⟨#[107]⟩,.string ⟨#[]⟩] (by rfl) (by rfl) _ _ r1 (i4_info _ _ _ _) rfl (i4_one _ _ _ _ _ _ _ _) ?_; generalize (w2.alloc (.cells #[.slice none 0 0,.slice none 0 0,.string ⟨#[]⟩,.string ⟨#[]⟩] 48)).setRow w2.heap.size #[.slice A1 2 q1,.slice A2 0 q2,.string ⟨#[107]⟩,.string ⟨#[]⟩] = w3 at HS k0 k2 ⊢; clear r1)
 go_ret;exact ⟨rfl,HS.out⟩
theorem ok25:Oid.Ok [2,5]:=by decide +kernel
theorem aw_t:pkT [2,5] [] ⟨#[107]⟩ ⟨#[]⟩ = pkF (bs (Oid.enc [2,5])) 5 ⟨#[]⟩ ⟨#[107]⟩ []:=by
 unfold pkT;rfl
theorem aw_pt:Pt (bs (Oid.enc [2,5])) 5 ⟨#[]⟩ []:=⟨(nm_ok ok25).1,Or.inl rfl,by decide +kernel,fun g hg => by cases hg⟩
theorem aw_is:IsT rightB (pkN (bs (Oid.enc [2,5])) 5 ⟨#[]⟩ ⟨#[107]⟩ []) (pkF (bs (Oid.enc [2,5])) 5 ⟨#[]⟩ ⟨#[107]⟩ []):=⟨pk_ok _ aw_pt,rfl,rfl,by decide,by decide⟩
theorem aw_x:bs (pkF (bs (Oid.enc [2,5])) 5 ⟨#[]⟩ ⟨#[107]⟩ []).enc = ⟨#[48,13,2,1,0,48,5,6,1,85,5,0,4,1,107]⟩:=by decide +kernel
theorem aw_ok:pkOk [2,5] [] ⟨#[107]⟩ ⟨#[]⟩:=⟨ok25,Or.inl rfl,⟨rfl,fun x hx => by cases hx⟩,by rw [aw_t]; exact is_right aw_is⟩
theorem awake:Mak 26 #[] (.bool true):=by
 have c1:=pencode_rd [2,5] [] ⟨#[107]⟩ ⟨#[]⟩ (by decide) (by decide);rw [pencW_yes aw_ok,aw_t,aw_x] at c1;have ht:=top_enc aw_is (by decide +kernel);rw [aw_x] at ht;have c2:=pdecode_yes _ (by decide) _ _ _ _ _ aw_pt ht;rw [(nm_ok ok25).2,dec_empty] at c2;exact awake_core c1 c2
end Pk
namespace Pk
open Tlv Tree Strs Rw
theorem i4_infoR (a b c d:Value):(Tryz.prog.info? 46).map (·.size) = some (#[a,b,c,d]:Array Value).size:=by kernel_rfl
set_option maxHeartbeats 4000000 in
theorem rpdec_1 (s:ByteArray) (C P:Int) (hC:(C != 0) = true) (N:List Nd) (d1:RDecT s C P N):DecI 30 s [] [] ⟨#[]⟩ ⟨#[]⟩ C:=by
 intro w;have hr:=lH (show HR w w.heap.size #[.slice none 0 0,.slice none 0 0,.string ⟨#[]⟩,.string ⟨#[]⟩] 46 (w.alloc (.cells #[.slice none 0 0,.slice none 0 0,.string ⟨#[]⟩,.string ⟨#[]⟩] 46)) from ⟨heap_alloc_new w _⟩);have HS:=lH ((Since.refl w).alloc (.cells #[.slice none 0 0,.slice none 0 0,.string ⟨#[]⟩,.string ⟨#[]⟩] 46))
 go_enter Tryz.func30,Tryz.ntmps30
 go_wp2_with fail;refine (d1 _).mono ?_;rintro _ w1 ⟨u1,rfl,hU,h1⟩;replace hU:=hU.tree;obtain ⟨A1,q1,e1,-,-⟩:=hU.slice;subst e1;replace HS:=lH (HS.out.step h1);replace hr:=lH (hr.out.step h1);have r1:(w1.alloc (.cells #[.int .i64 0,.int .i64 0] 65)).heap[w1.heap.size]? = some (.cells #[.int .i64 0,.int .i64 0] 65 (0,0)):=heap_alloc_new w1 _;have hb:=lH (hb_row (K:=KT) (C':=#[.int .i64 C,.int .i64 P]) ((Since.refl w1).alloc _) (Nat.le_refl _) trivial r1);have y0:=hb.out.cell 0 _ rfl;have hlw:w.heap.size < w1.heap.size:=(Array.getElem?_eq_some_iff.1 hr.out.row).1;replace HS:=lH (HS.out.step hb.out.since);replace hr:=lH (hr.out.step hb.out.since);have HU:=lH (hU.since hb.out.since);obtain ⟨n0,hn0⟩:∃ n,n = N.length:=⟨_,rfl⟩
 rw [<- hn0] at HU ⊢;have HN0:=lH hn0;clear hU h1 hn0;go_wp2_with (refine RwL.at_store (ty:=65) rfl ?_; refine wpList_store_row rfl 65 _ _ rfl w1.heap.size #[.int .i64 C,.int .i64 P] (by rfl) (by rfl) _ _ r1 (f2_info C P) rfl (f2_one C P) ?_; generalize hw2:(w1.alloc (.cells #[.int .i64 0,.int .i64 0] 65)).setRow w1.heap.size #[.int .i64 C,.int .i64 P] = w2 at HS hr HU y0 ⊢; clear hw2 r1 hb)
 replace y0:w2.cell? ⟨w1.heap.size,0,none⟩ = some (.int .i64 C):=y0;have hl1:w1.heap.size < w2.heap.size:=lt_cell y0;refine RegW.start (fun W' => Hid (Since w W') /\ W'.cell? ⟨w1.heap.size,0,none⟩ = some (.int .i64 C)) 4 (by kernel_rfl) ⟨lH (HS.out.step (drew_since3 _)),(Below.cell (drew_since3 _) (p:=⟨w1.heap.size,0,none⟩) hl1).trans y0⟩ (fun hHeld => ?_);refine RegW.tk 0 rfl ?_;try simp only [RegW.p]
 refine RegW.tk 1 rfl ?_;try simp only [RegW.p]
 refine RegW.tk 2 rfl ?_;try simp only [RegW.p]
 refine RegW.only (i:=3) rfl (by kernel_rfl) (fun K hK => ?_);rw [if_pos (by kernel_rfl)];have r9:=(hr.out.step (drew_since3 w2)).row;refine wp_store_row 46 _ _ rfl w.heap.size #[.slice none 0 0,.slice none 0 0,.string ⟨#[]⟩,.string ⟨#[]⟩] (by rfl) (by rfl) _ _ r9 (i4_infoR _ _ _ _) rfl (i4_one _ _ _ _ _ _ _ _) ?_;refine hK.out _ _ ⟨lH (below_setRow hHeld.1.out (Nat.le_refl _) _),(cell_setRow (by omega)).trans hHeld.2⟩ (fun hHeld2 => ?_);clear hK K;refine RegW.last rfl (by kernel_rfl) (by kernel_rfl) ?_;have HS2:=hHeld2.1;clear hHeld2;go_wp2_with fail;exact bodyPost_ret (v:=.tuple #[.agg #[.slice none 0 0,.slice none 0 0,.string ⟨#[]⟩,.string ⟨#[]⟩],.int .i64 C]) (results_cell_tmp2 Tryz.results30 _ _ _ _ _ _ _ _ rfl rfl (setRow_heap _ _ _ _ _ _ r9) Tryz.underlying46 rfl (i4_infoR _ _ _ _)) rfl ⟨_,_,rfl,IntsS.nil _,IntsS.nil _,HS2.out⟩
set_option maxHeartbeats 4000000 in
theorem rpdec_2 (s:ByteArray) (C P:Int) (hC:(C != 0) = false) (N:List Nd) (d1:RDecT s C P N) (x0:Nd) (hx0:N[0]? = some x0) (h3:x0.k.length ≠ 3) (h4:x0.k.length ≠ 4):DecI 30 s [] [] ⟨#[]⟩ ⟨#[]⟩ 5:=by
 intro w;have hr:=lH (show HR w w.heap.size #[.slice none 0 0,.slice none 0 0,.string ⟨#[]⟩,.string ⟨#[]⟩] 46 (w.alloc (.cells #[.slice none 0 0,.slice none 0 0,.string ⟨#[]⟩,.string ⟨#[]⟩] 46)) from ⟨heap_alloc_new w _⟩);have HS:=lH ((Since.refl w).alloc (.cells #[.slice none 0 0,.slice none 0 0,.string ⟨#[]⟩,.string ⟨#[]⟩] 46))
 go_enter Tryz.func30,Tryz.ntmps30
 go_wp2_with fail;refine (d1 _).mono ?_;rintro _ w1 ⟨u1,rfl,hU,h1⟩;replace hU:=hU.tree;obtain ⟨A1,q1,e1,-,-⟩:=hU.slice;subst e1;replace HS:=lH (HS.out.step h1);replace hr:=lH (hr.out.step h1);have r1:(w1.alloc (.cells #[.int .i64 0,.int .i64 0] 65)).heap[w1.heap.size]? = some (.cells #[.int .i64 0,.int .i64 0] 65 (0,0)):=heap_alloc_new w1 _;have hb:=lH (hb_row (K:=KT) (C':=#[.int .i64 C,.int .i64 P]) ((Since.refl w1).alloc _) (Nat.le_refl _) trivial r1);have y0:=hb.out.cell 0 _ rfl;have hlw:w.heap.size < w1.heap.size:=(Array.getElem?_eq_some_iff.1 hr.out.row).1;replace HS:=lH (HS.out.step hb.out.since);replace hr:=lH (hr.out.step hb.out.since);have HU:=lH (hU.since hb.out.since);obtain ⟨n0,hn0⟩:∃ n,n = N.length:=⟨_,rfl⟩
 rw [<- hn0] at HU ⊢;have HN0:=lH hn0;clear hU h1 hn0;obtain ⟨b,o,cc,hv,g1,g2,g3,g4⟩:=HU.out.form (List.getElem?_eq_some_iff.1 hx0).1;obtain ⟨e1,e2,e3⟩:=Value.slice.inj hv;subst e1;subst e3;obtain ⟨kv,-,-,-,-,m4,hk⟩:=g4 0 x0 hx0;rw [Nat.zero_mul,Nat.add_zero] at m4;obtain ⟨AK,qk,ek,-,-⟩:=hk.slice;subst ek;obtain ⟨nk,hnk⟩:∃ n,n = x0.k.length:=⟨_,rfl⟩
 rw [<- hnk] at m4 hk;have i0:(0:Int) < (n0:Int):=by have:=(List.getElem?_eq_some_iff.1 hx0).1; omega
 have i00:0 < n0:=by omega
 have HNK:=lH hnk;have HK:=lH hk;have x3:((nk:Int) != 3) = true:=bne_iff_ne.2 (by omega);have x4:((nk:Int) != 4) = true:=bne_iff_ne.2 (by omega);clear hv e2 g1 g2 g3 g4 hk hnk h3 h4;go_wp2_with (first
   | (refine RwL.at_store (ty:=65) rfl ?_; refine wpList_store_row rfl 65 _ _ rfl w1.heap.size #[.int .i64 C,.int .i64 P] (by rfl) (by rfl) _ _ r1 (f2_info C P) rfl (f2_one C P) ?_; generalize hw2:(w1.alloc (.cells #[.int .i64 0,.int .i64 0] 65)).setRow w1.heap.size #[.int .i64 C,.int .i64 P] = w2 at HS hr HU y0 m4 HK ⊢; clear hw2 r1 hb)
   | (refine RwL.at_store (ty:=46) rfl ?_; refine wpList_store_row rfl 46 _ _ rfl w.heap.size #[.slice none 0 0,.slice none 0 0,.string ⟨#[]⟩,.string ⟨#[]⟩] (by rfl) (by rfl) _ _ hr.out.row (i4_infoR _ _ _ _) rfl (i4_one _ _ _ _ _ _ _ _) ?_))
 exact bodyPost_ret (v:=.tuple #[.agg #[.slice none 0 0,.slice none 0 0,.string ⟨#[]⟩,.string ⟨#[]⟩],.int .i64 5]) (results_cell_tmp2 Tryz.results30 _ _ _ _ _ _ _ _ rfl rfl (setRow_heap _ _ _ _ _ _ hr.out.row) Tryz.underlying46 rfl (i4_infoR _ _ _ _)) rfl ⟨_,_,rfl,IntsS.nil _,IntsS.nil _,below_setRow HS.out (Nat.le_refl _) _⟩
set_option maxHeartbeats 4000000 in
theorem rpdec_3_3 (s:ByteArray) (C P:Int) (hC:(C != 0) = false) (N:List Nd) (d1:RDecT s C P N) (x0:Nd) (hx0:N[0]? = some x0) (h3:x0.k.length = 3) (j1:Nat) (hj1:x0.k[1]? = some (j1:Int)) (x1:Nd) (hx1:N[j1]? = some x1) (h2:x1.k.length ≠ 2):DecI 30 s [] [] ⟨#[]⟩ ⟨#[]⟩ 5:=by
 intro w;have hr:=lH (show HR w w.heap.size #[.slice none 0 0,.slice none 0 0,.string ⟨#[]⟩,.string ⟨#[]⟩] 46 (w.alloc (.cells #[.slice none 0 0,.slice none 0 0,.string ⟨#[]⟩,.string ⟨#[]⟩] 46)) from ⟨heap_alloc_new w _⟩);have HS:=lH ((Since.refl w).alloc (.cells #[.slice none 0 0,.slice none 0 0,.string ⟨#[]⟩,.string ⟨#[]⟩] 46))
 go_enter Tryz.func30,Tryz.ntmps30
 go_wp2_with fail;refine (d1 _).mono ?_;rintro _ w1 ⟨u1,rfl,hU,h1⟩;replace hU:=hU.tree;obtain ⟨A1,q1,e1,-,-⟩:=hU.slice;subst e1;replace HS:=lH (HS.out.step h1);replace hr:=lH (hr.out.step h1);have r1:(w1.alloc (.cells #[.int .i64 0,.int .i64 0] 65)).heap[w1.heap.size]? = some (.cells #[.int .i64 0,.int .i64 0] 65 (0,0)):=heap_alloc_new w1 _;have hb:=lH (hb_row (K:=KT) (C':=#[.int .i64 C,.int .i64 P]) ((Since.refl w1).alloc _) (Nat.le_refl _) trivial r1);have y0:=hb.out.cell 0 _ rfl;have hlw:w.heap.size < w1.heap.size:=(Array.getElem?_eq_some_iff.1 hr.out.row).1;replace HS:=lH (HS.out.step hb.out.since);replace hr:=lH (hr.out.step hb.out.since);have HU:=lH (hU.since hb.out.since);obtain ⟨n0,hn0⟩:∃ n,n = N.length:=⟨_,rfl⟩
 rw [<- hn0] at HU ⊢;have HN0:=lH hn0;clear hU h1 hn0;obtain ⟨b,o,cc,hv,g1,g2,g3,g4⟩:=HU.out.form (List.getElem?_eq_some_iff.1 hx0).1;obtain ⟨e1,e2,e3⟩:=Value.slice.inj hv;subst e1;subst e3;obtain ⟨kv,-,-,-,-,m4,hk⟩:=g4 0 x0 hx0;rw [Nat.zero_mul,Nat.add_zero] at m4;obtain ⟨AK,qk,ek,-,-⟩:=hk.slice;subst ek;obtain ⟨nk,hnk⟩:∃ n,n = x0.k.length:=⟨_,rfl⟩
 rw [<- hnk] at m4 hk;have i0:(0:Int) < (n0:Int):=by have:=(List.getElem?_eq_some_iff.1 hx0).1; omega
 have i00:0 < n0:=by omega
 have HNK:=lH hnk;have HK:=lH hk;obtain rfl:nk = 3:=by omega
 obtain ⟨bk,ok,ck,hvk,-,-,lk,hck⟩:=SlR.form hk (by omega);obtain ⟨e4,-,e5⟩:=Value.slice.inj hvk;subst e4;subst e5;have k1:=hck 1 (.int .i64 (j1:Int)) (by rw [List.getElem?_map,hj1]; rfl);obtain ⟨kv1,-,-,-,-,m5,hk1⟩:=g4 j1 x1 hx1;obtain ⟨AL,ql,el,-,-⟩:=hk1.slice;subst el;obtain ⟨nl,hnl⟩:∃ n,n = x1.k.length:=⟨_,rfl⟩
 rw [<- hnl] at m5 hk1;have j0:(0:Int) <= (j1:Int):=by omega
 have jn:(j1:Int) < (n0:Int):=by have:=(List.getElem?_eq_some_iff.1 hx1).1; omega
 have jn0:j1 < n0:=by omega
 have x2:((nl:Int) != 2) = true:=bne_iff_ne.2 (by omega);clear hv e2 g1 g2 g3 g4 hk hnk h3 h2 hnl hk1 hvk hck lk;go_wp2_with (first
   | (refine RwL.at_store (ty:=65) rfl ?_; refine wpList_store_row rfl 65 _ _ rfl w1.heap.size #[.int .i64 C,.int .i64 P] (by rfl) (by rfl) _ _ r1 (f2_info C P) rfl (f2_one C P) ?_; generalize hw2:(w1.alloc (.cells #[.int .i64 0,.int .i64 0] 65)).setRow w1.heap.size #[.int .i64 C,.int .i64 P] = w2 at HS hr HU y0 m4 k1 m5 HK ⊢; clear hw2 r1 hb)
   | (refine RwL.at_store (ty:=46) rfl ?_; refine wpList_store_row rfl 46 _ _ rfl w.heap.size #[.slice none 0 0,.slice none 0 0,.string ⟨#[]⟩,.string ⟨#[]⟩] (by rfl) (by rfl) _ _ hr.out.row (i4_infoR _ _ _ _) rfl (i4_one _ _ _ _ _ _ _ _) ?_))
 exact bodyPost_ret (v:=.tuple #[.agg #[.slice none 0 0,.slice none 0 0,.string ⟨#[]⟩,.string ⟨#[]⟩],.int .i64 5]) (results_cell_tmp2 Tryz.results30 _ _ _ _ _ _ _ _ rfl rfl (setRow_heap _ _ _ _ _ _ hr.out.row) Tryz.underlying46 rfl (i4_infoR _ _ _ _)) rfl ⟨_,_,rfl,IntsS.nil _,IntsS.nil _,below_setRow HS.out (Nat.le_refl _) _⟩
set_option maxHeartbeats 4000000 in
theorem rpdec_3_4 (s:ByteArray) (C P:Int) (hC:(C != 0) = false) (N:List Nd) (d1:RDecT s C P N) (x0:Nd) (hx0:N[0]? = some x0) (h3:x0.k.length = 4) (j1:Nat) (hj1:x0.k[1]? = some (j1:Int)) (x1:Nd) (hx1:N[j1]? = some x1) (h2:x1.k.length ≠ 2):DecI 30 s [] [] ⟨#[]⟩ ⟨#[]⟩ 5:=by
 intro w;have hr:=lH (show HR w w.heap.size #[.slice none 0 0,.slice none 0 0,.string ⟨#[]⟩,.string ⟨#[]⟩] 46 (w.alloc (.cells #[.slice none 0 0,.slice none 0 0,.string ⟨#[]⟩,.string ⟨#[]⟩] 46)) from ⟨heap_alloc_new w _⟩);have HS:=lH ((Since.refl w).alloc (.cells #[.slice none 0 0,.slice none 0 0,.string ⟨#[]⟩,.string ⟨#[]⟩] 46))
 go_enter Tryz.func30,Tryz.ntmps30
 go_wp2_with fail;refine (d1 _).mono ?_;rintro _ w1 ⟨u1,rfl,hU,h1⟩;replace hU:=hU.tree;obtain ⟨A1,q1,e1,-,-⟩:=hU.slice;subst e1;replace HS:=lH (HS.out.step h1);replace hr:=lH (hr.out.step h1);have r1:(w1.alloc (.cells #[.int .i64 0,.int .i64 0] 65)).heap[w1.heap.size]? = some (.cells #[.int .i64 0,.int .i64 0] 65 (0,0)):=heap_alloc_new w1 _;have hb:=lH (hb_row (K:=KT) (C':=#[.int .i64 C,.int .i64 P]) ((Since.refl w1).alloc _) (Nat.le_refl _) trivial r1);have y0:=hb.out.cell 0 _ rfl;have hlw:w.heap.size < w1.heap.size:=(Array.getElem?_eq_some_iff.1 hr.out.row).1;replace HS:=lH (HS.out.step hb.out.since);replace hr:=lH (hr.out.step hb.out.since);have HU:=lH (hU.since hb.out.since);obtain ⟨n0,hn0⟩:∃ n,n = N.length:=⟨_,rfl⟩
 rw [<- hn0] at HU ⊢;have HN0:=lH hn0;clear hU h1 hn0;obtain ⟨b,o,cc,hv,g1,g2,g3,g4⟩:=HU.out.form (List.getElem?_eq_some_iff.1 hx0).1;obtain ⟨e1,e2,e3⟩:=Value.slice.inj hv;subst e1;subst e3;obtain ⟨kv,-,-,-,-,m4,hk⟩:=g4 0 x0 hx0;rw [Nat.zero_mul,Nat.add_zero] at m4;obtain ⟨AK,qk,ek,-,-⟩:=hk.slice;subst ek;obtain ⟨nk,hnk⟩:∃ n,n = x0.k.length:=⟨_,rfl⟩
 rw [<- hnk] at m4 hk;have i0:(0:Int) < (n0:Int):=by have:=(List.getElem?_eq_some_iff.1 hx0).1; omega
 have i00:0 < n0:=by omega
 have HNK:=lH hnk;have HK:=lH hk;obtain rfl:nk = 4:=by omega
 obtain ⟨bk,ok,ck,hvk,-,-,lk,hck⟩:=SlR.form hk (by omega);obtain ⟨e4,-,e5⟩:=Value.slice.inj hvk;subst e4;subst e5;have k1:=hck 1 (.int .i64 (j1:Int)) (by rw [List.getElem?_map,hj1]; rfl);obtain ⟨kv1,-,-,-,-,m5,hk1⟩:=g4 j1 x1 hx1;obtain ⟨AL,ql,el,-,-⟩:=hk1.slice;subst el;obtain ⟨nl,hnl⟩:∃ n,n = x1.k.length:=⟨_,rfl⟩
 rw [<- hnl] at m5 hk1;have j0:(0:Int) <= (j1:Int):=by omega
 have jn:(j1:Int) < (n0:Int):=by have:=(List.getElem?_eq_some_iff.1 hx1).1; omega
 have jn0:j1 < n0:=by omega
 have x2:((nl:Int) != 2) = true:=bne_iff_ne.2 (by omega);clear hv e2 g1 g2 g3 g4 hk hnk h3 h2 hnl hk1 hvk hck lk;go_wp2_with (first
   | (refine RwL.at_store (ty:=65) rfl ?_; refine wpList_store_row rfl 65 _ _ rfl w1.heap.size #[.int .i64 C,.int .i64 P] (by rfl) (by rfl) _ _ r1 (f2_info C P) rfl (f2_one C P) ?_; generalize hw2:(w1.alloc (.cells #[.int .i64 0,.int .i64 0] 65)).setRow w1.heap.size #[.int .i64 C,.int .i64 P] = w2 at HS hr HU y0 m4 k1 m5 HK ⊢; clear hw2 r1 hb)
   | (refine RwL.at_store (ty:=46) rfl ?_; refine wpList_store_row rfl 46 _ _ rfl w.heap.size #[.slice none 0 0,.slice none 0 0,.string ⟨#[]⟩,.string ⟨#[]⟩] (by rfl) (by rfl) _ _ hr.out.row (i4_infoR _ _ _ _) rfl (i4_one _ _ _ _ _ _ _ _) ?_))
 exact bodyPost_ret (v:=.tuple #[.agg #[.slice none 0 0,.slice none 0 0,.string ⟨#[]⟩,.string ⟨#[]⟩],.int .i64 5]) (results_cell_tmp2 Tryz.results30 _ _ _ _ _ _ _ _ rfl rfl (setRow_heap _ _ _ _ _ _ hr.out.row) Tryz.underlying46 rfl (i4_infoR _ _ _ _)) rfl ⟨_,_,rfl,IntsS.nil _,IntsS.nil _,below_setRow HS.out (Nat.le_refl _) _⟩
end Pk
end Go.Proofs.YtpanhhjkecebkaaGreat
