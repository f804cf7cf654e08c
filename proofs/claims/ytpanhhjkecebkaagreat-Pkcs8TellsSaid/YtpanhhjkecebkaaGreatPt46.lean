import Derived.Test.YtpanhhjkecebkaaGreatPt41
import Derived.Lib.AppendZeros
import Derived.Test.YtpanhhjkecebkaaGreatPt9
set_option maxRecDepth 100000
namespace Go.Proofs.YtpanhhjkecebkaaGreat
open Go.RowKit
namespace Atf
open Att Rw Tlv
theorem own_slice {w:World} {base:Nat} {e:TypeId} {k n:Nat} {v:Value} {xs:List Value} (h:w.ownsRow base e k v n xs):∃ A c,v = .slice A n c /\ n <= c:=by
 rcases h.2 with ⟨h0,h1⟩ | ⟨g',cap,cur,hv,hb,hg,hc,_⟩
 · subst h1; exact ⟨_,_,h0,Nat.le_refl _⟩
 · exact ⟨_,_,hv,hc⟩
end Atf
namespace Pk
open Tlv Tree Strs Rw Span Flt
def TreeN (base:Nat) (W:World) (v:Value) (N:List Nd):Prop:=∀ W':World,W.heap.size <= W'.heap.size -> (∀ b,base <= b -> b < W.heap.size -> W'.heap[b]? = W.heap[b]?) -> TreeS W' v N
theorem TreeN.tree {base:Nat} {W:World} {v:Value} {N:List Nd} (h:TreeN base W v N):TreeS W v N:=h W (Nat.le_refl _) (fun _ _ _ => rfl)
theorem TreeN.since {base:Nat} {W W':World} {v:Value} {N:List Nd} (h:TreeN base W v N) (hs:Since W W'):TreeN base W' v N:=fun W2 h1 h2 =>
 h W2 (Nat.le_trans (Below.size hs) h1) (fun b hb hl => (h2 b hb (Nat.lt_of_lt_of_le hl (Below.size hs))).trans (Below.block hs b hl))
theorem own_moved {W W':World} {base:Nat} {e:TypeId} {k:Nat} {v:Value} {n:Nat} {xs:List Value} (h:W.ownsRow base e k v n xs) (hW:∀ b,base <= b -> b < W.heap.size -> W'.heap[b]? = W.heap[b]?):W'.ownsRow base e k v n xs:=by
 obtain ⟨h1,h2⟩:=h;refine ⟨h1, ?_⟩;rcases h2 with h2 | ⟨g,cap,cur,rfl,hb,hg,r⟩
 · exact Or.inl h2
 · exact Or.inr ⟨g,cap,cur,rfl,hb,(hW g hb (Array.getElem?_eq_some_iff.1 hg).1).trans hg,r⟩
theorem TreeN.rows {W:World} {base:Nat} {tv sv ov:Value} {ns:List (Nd × Value)} {sp:List (Nat × Nat)} {op:List Nat} (h:Rw.Rows W base (WRows tv sv ov ns sp op)):TreeN base W tv (ns.map Prod.fst) :=
 fun _ _ h2 => TreeS.own ⟨fun r hr => own_moved (h.own r hr) h2,h.apart⟩
set_option maxHeartbeats 2000000 in
theorem dec_n (s:ByteArray) (hm:s.size <= maxLen) (c p:Nat) (N:List Nd) (S:List (Nat × Nat)) (ht:topV s = (c,p,N,S)) (w:World):Calls Tryz.prog 59 #[.string s] w fun e w' => ∃ tv,e = .returned (.tuple #[tv,.agg (F2 (c:Int) (p:Int))]) /\ TreeN w.heap.size w' tv N /\ Since w w':=by
 have cw:=walk_u s hm c p N S ht;have hr0:Hid (HR w w.heap.size (F2 0 0) 65 (w.alloc (.cells (F2 0 0) 65))):=lH ⟨heap_alloc_new w _⟩;have HS:Hid (Since w (w.alloc (.cells (F2 0 0) 65))):=lH ((Since.refl w).alloc _);unfold F2 at hr0 HS;clear ht hm
 go_enter Tryz.func59,Tryz.ntmps59
 go_wp2_with fail;refine (cw _).mono ?_;rintro _ w1 ⟨tv,sv,ov,ns,rfl,hT,hN,h1⟩;obtain ⟨C,hC⟩:∃ C:Int,C = (c:Int):=⟨_,rfl⟩
 obtain ⟨P,hP⟩:∃ P:Int,P = (p:Int):=⟨_,rfl⟩
 have hT2:=lH (hT.since ((Since.refl w1).alloc (.cells (F2 C P) 65)));have hr1:=lH (hr_old (hr0.out.step h1) (.cells (F2 C P) 65));have HS1:=lH ((HS.out.step h1).alloc (.cells (F2 C P) 65));have hp:=lH (hb_new w1 KT trivial (F2 C P) 65);have HN:=lH hN;rw [<- hC,<- hP];have HC:=lH hC;have HP:=lH hP;clear hT h1 hr0 HS hC hP cw hN;unfold F2 at hT2 hr1 HS1 hp ⊢;have f0:=hr_cell hr1.out 0 _ rfl;have f1:=hr_cell hr1.out 1 _ rfl;have g0:=frozen_of_row _ _ 0 _ _ hr1.out.row;have g1:=frozen_of_row _ _ 1 _ _ hr1.out.row;have n0:=hp.out.cell 0 _ rfl;have n1:=hp.out.cell 1 _ rfl;go_wp2_with fail
 go_region
 have hr2:=(two_set hr1.out (.int .i64 C) (.int .i64 P)).step (W':=(((w1.alloc (.cells #[.int .i64 C,.int .i64 P] 65)).setCell ⟨w.heap.size,0,none⟩ (.int .i64 C)).setCell ⟨w.heap.size,1,none⟩ (.int .i64 P)).drew) (Since.drew (Since.refl _));have hS2:Since w (((w1.alloc (.cells #[.int .i64 C,.int .i64 P] 65)).setCell ⟨w.heap.size,0,none⟩ (.int .i64 C)).setCell ⟨w.heap.size,1,none⟩ (.int .i64 P)).drew:=Since.drew (Below.setCell (p:=⟨w.heap.size,1,none⟩) (Below.setCell (p:=⟨w.heap.size,0,none⟩) HS1.out (Nat.le_refl _) _) (Nat.le_refl _) _);have hlow:w.heap.size < (w.alloc (.cells #[.int .i64 0,.int .i64 0] 65)).heap.size:=by simp
 have hT3:=(rows_low (rows_low hT2.out (a:=⟨w.heap.size,0,none⟩) hlow (.int .i64 C)) (a:=⟨w.heap.size,1,none⟩) hlow (.int .i64 P)).since (Since.drew (Since.refl _));have hT4:=TreeN.rows (rows_base hT3 (show w.heap.size <= (w.alloc (.cells #[.int .i64 0,.int .i64 0] 65)).heap.size by simp));rw [HN.out] at hT4;generalize (((w1.alloc (.cells #[.int .i64 C,.int .i64 P] 65)).setCell ⟨w.heap.size,0,none⟩ (.int .i64 C)).setCell ⟨w.heap.size,1,none⟩ (.int .i64 P)).drew = W2 at hr2 hS2 hT4 ⊢;clear hT3;go_wp2_with fail;exact bodyPost_ret (v:=.tuple #[tv,.agg #[.int .i64 C,.int .i64 P]]) (results_t_cell Tryz.results59 _ _ _ _ _ _ _ _ rfl rfl hr2.row Tryz.underlying65 rfl (f2_info C P)) rfl ⟨tv,by rw [HC.out,HP.out]; rfl,hT4,hS2⟩
theorem app_rows2 {T E:TypeId} {z:Value} {size bytes:Nat} (I:ElemIs T E z size bytes) {ops:Array Oper} {rest:List Oper} {o:Oper} {a:Act} {Q:Exit -> Act -> World -> Prop} (hgd:o.guard = none) (s x:Operand)
   (ho:o.op = .call { callee:=.builtin .append,args:=#[s,x],argTypes:=#[T,T] })
   (w0 wr:World) (H:Nat) (hH:wr.heap.size = H) (A B:List Row) (v:Value) (n:Nat) (xs:List Value) (hs:a.eval s = v) (hown:Rw.Rows wr w0.heap.size (A ++ ⟨E,size,v,n,xs⟩ :: B)) (hS:Since w0 wr)
   (cells:Array Value) (c m:Nat) (hx:a.eval x = .slice (some ⟨H,0,none⟩) m c) (hl:cells.toList.length = m * size) (h1:∀ u ∈ cells.toList,u.oneCell' = true)
   (h63:n + m <= maxLen) (hbytes:(n + m) * bytes <= 140737488355328)
   (h:∀ v' w',Rw.Rows w' w0.heap.size (A ++ ⟨E,size,v',n + m,xs ++ cells.toList⟩ :: B) -> Since w0 w' -> KeptBut wr w' v -> (v'.ownBlock = v.ownBlock ∨ v'.ownBlock = some (wr.heap.size + 1)) -> wpList Tryz.prog ops Q rest (a.put o.dst v') w') :
   wpList Tryz.prog ops Q (o :: rest) a (wr.alloc (.cells cells E)):=by
 subst hH;obtain ⟨ht,hi,hz,hs0⟩:=I;obtain ⟨i,hi1,hi2⟩:=Option.map_eq_some_iff.1 hi;simp only [Prod.mk.injEq] at hi2;have hown1:=hown.get;have h9:=Below.size hS;refine wpList_append_own_at (w:=wr.alloc (.cells cells E)) hgd s x T ho w0.heap.size E i z size bytes ht hi1 hi2.1 hi2.2.1 hi2.2.2 hz hs0 v n xs hs (hown1.alloc _) ⟨wr.heap.size,0,none⟩ m c cells.toList hx hl ?_ h1 h63 hbytes (by simp; omega) ?_
 · intro j u hu;have hj:j < cells.size:=by
     rcases List.getElem?_eq_some_iff.1 hu with ⟨hj,_⟩
     simpa using hj
   have hadd:(⟨wr.heap.size,0,none⟩:Addr).add j = ⟨wr.heap.size,j,none⟩:=by unfold Addr.add; split <;> simp_all
   rw [hadd,(World.rowIs_alloc wr cells E (fun k => cells.getD k (.bool false)) (fun k hk => by simp [Array.getD,hk])).cell hj];rw [Array.getElem?_toList] at hu;simp [Array.getD,hj] at hu ⊢;exact hu
 · intro v' w' ho' hg _ hw;refine h v' w' (hown.turn ⟨E,size,v',n + m,xs ++ cells.toList⟩ ho' fun u hu hap => ⟨?_, ?_⟩) ?_ ⟨by have:=hg.size; simp at this; omega,fun b hb hr => ?_⟩ (by simpa using hw)
   · refine (World.ownsRow.alloc hu _).kept hg ?_;cases hub:u.v.ownBlock with
     | none => exact Or.inl rfl
     | some g => exact Or.inr fun e => hap g e.symm hub
   · intro g h2 h3;rcases hw with hw | hw
     · exact hap g (hw ▸ h2) h3
     · rw [show (⟨E,size,v',n + m,xs ++ cells.toList⟩:Row).v = v' from rfl,hw] at h2;cases h2;have h4:=(World.ownsRow.lt hu _ h3).2;have e4:(wr.alloc (.cells cells E)).heap.size = wr.heap.size + 1:=by simp
       omega
   · exact Below.grown (Below.alloc hS (Below.size hS) _) hg (by simp; omega) (fun k hk => (hown1.lt k hk).1)
   · rw [hg.block b (by simp; omega) hr];exact heap_alloc_old _ _ hb
structure TRow (w wr:World) (V:Value) (vs:List Value) (Ns:List (List Nd)):Prop where
 row:Rw.Rows wr w.heap.size (([]:List Row) ++ ⟨75,1,V,vs.length,vs⟩ :: [])
 len:vs.length = Ns.length
 at_:∀ (j:Nat) x N,vs[j]? = some x -> Ns[j]? = some N -> ∀ W',KeptBut wr W' V -> TreeS W' x N
theorem kept_refl (W:World) (V:Value):KeptBut W W V:=⟨Nat.le_refl _,fun _ _ _ => rfl⟩
theorem TRow.nil (w wr:World):TRow w wr (.slice none 0 0) [] []:=⟨⟨fun r hr => by rw [List.mem_singleton.1 hr]; exact World.ownsRow_nil _ _ _ _,by simp⟩,rfl,fun j x N h => by cases h⟩
theorem TRow.since {w wr wy:World} {V:Value} {vs:List Value} {Ns:List (List Nd)} (h:TRow w wr V vs Ns) (hs:Since wr wy):TRow w wy V vs Ns :=
 ⟨Rw.Rows.since h.row hs,h.len,fun j x N hx hN W' hk => h.at_ j x N hx hN W' ⟨Nat.le_trans (Below.size hs) hk.size,fun b hb hne => (hk.block b (Nat.lt_of_lt_of_le hb (Below.size hs)) hne).trans (Below.block hs b hb)⟩⟩
theorem TRow.val {w wr:World} {V:Value} {vs:List Value} {Ns:List (List Nd)} (h:TRow w wr V vs Ns):∃ A c,V = .slice A vs.length c /\ vs.length <= c:=Atf.own_slice h.row.get
theorem TRow.trees {w wr:World} {V:Value} {vs:List Value} {Ns:List (List Nd)} (h:TRow w wr V vs Ns):TreesS wr V Ns:=⟨vs,by rw [<- h.len]; exact SlR.own h.row.get,fun j x N hx hN => h.at_ j x N hx hN wr (kept_refl _ _)⟩
theorem TRow.push {w w6 w7:World} {V V2 u:Value} {vs:List Value} {Ns:List (List Nd)} {N:List Nd} {base:Nat} (h:TRow w w6 V vs Ns) (hb:∀ g,V.ownBlock = some g -> g < base) (hu:TreeN base w6 u N) (hk:KeptBut w6 w7 V) (_hb6:base <= w6.heap.size)
   (hw:V2.ownBlock = V.ownBlock ∨ V2.ownBlock = some (w6.heap.size + 1)) (hr:Rw.Rows w7 w.heap.size (([]:List Row) ++ ⟨75,1,V2,vs.length + 1,vs ++ [u]⟩ :: [])):TRow w w7 V2 (vs ++ [u]) (Ns ++ [N]):=by
 refine ⟨by rw [List.length_append]; exact hr,by rw [List.length_append,List.length_append,h.len]; rfl,fun j x M hx hM W' hW => ?_⟩
 by_cases hj:j < vs.length
 · rw [List.getElem?_append_left hj] at hx;rw [List.getElem?_append_left (by rw [<- h.len]; exact hj)] at hM;refine h.at_ j x M hx hM W' ⟨Nat.le_trans hk.size hW.size,fun b hbl hne => ?_⟩;rw [hW.block b (Nat.lt_of_lt_of_le hbl hk.size) (by
     rcases hw with hw | hw
     · rw [hw]; exact hne
     · rw [hw]; intro e; have:=Option.some.inj e; omega)]
   exact hk.block b hbl hne
 · have hj2:j = vs.length:=by
     have:=(List.getElem?_eq_some_iff.1 hx).1;rw [List.length_append] at this;simp at this;omega
   subst hj2;rw [List.getElem?_append_right (Nat.le_refl _),Nat.sub_self] at hx;rw [h.len,List.getElem?_append_right (Nat.le_refl _),Nat.sub_self] at hM;cases hx;cases hM;refine hu W' (Nat.le_trans hk.size hW.size) fun b hbb hbl => ?_
   have hne:some b ≠ V.ownBlock:=fun e => by
     have:=hb b e.symm;omega
   rw [hW.block b (Nat.lt_of_lt_of_le hbl hk.size) (by
     rcases hw with hw | hw
     · rw [hw]; exact hne
     · rw [hw]; intro e; have:=Option.some.inj e; omega)]
   exact hk.block b hbl hne
end Pk
namespace Pk
open Tlv Tree Strs Rw
theorem elemTr:ElemIs 80 75 (.slice none 0 0) 1 24:=⟨Tryz.underlying80,by kernel_rfl,rfl,by decide⟩
def gOf (x:ByteArray):F:=match top rightB x with | .ok g => g | .error _ => .nil
def okx (x:ByteArray):Bool:=match top rightB x with | .ok _ => true | .error _ => false
def DecT (s:ByteArray) (C P:Int) (N:List Nd):Prop:=∀ w,Calls Tryz.prog 59 #[.string s] w fun e w' => ∃ tv,e = .returned (.tuple #[tv,.agg #[.int .i64 C,.int .i64 P]]) /\ TreeN w.heap.size w' tv N /\ Since w w'
def ArR (f:Nat) (s:ByteArray) (N:List Nd) (q:Bool):Prop:=∀ w,Calls Tryz.prog f #[.string s] w fun e w' => ∃ v,e = .returned (.tuple #[v,.bool q]) /\ TreeS w' v N /\ Since w w'
set_option maxHeartbeats 4000000 in
theorem aro_1 (s:ByteArray) (C P:Int) (hC:(C != 0) = true) (L:List ByteArray) (d1:PcR 43 s C P L):ArR 65 s [] false:=by
 intro w;have HS:=lH (Since.refl w)
 go_enter Tryz.func65,Tryz.ntmps65
 go_wp2_with fail;refine (d1 _).mono ?_;rintro _ w1 ⟨u1,rfl,hU,h1⟩;obtain ⟨A1,q1,e1,-,-⟩:=SlR.slice hU;subst e1;unfold F2;replace HS:=lH (HS.out.step h1);have r1:(w1.alloc (.cells #[.int .i64 0,.int .i64 0] 65)).heap[w1.heap.size]? = some (.cells #[.int .i64 0,.int .i64 0] 65 (0,0)):=heap_alloc_new w1 _;have hb:=lH (Tree.hb_row (K:=KT) (C':=#[.int .i64 C,.int .i64 P]) ((Since.refl w1).alloc _) (Nat.le_refl _) trivial r1);have y0:=hb.out.cell 0 _ rfl;replace HS:=lH (HS.out.step hb.out.since);have HU:=lH (SlR.since hU hb.out.since);clear hU h1;go_wp2_with (refine RwL.at_store (ty:=65) rfl ?_; refine wpList_store_row rfl 65 _ _ rfl w1.heap.size #[.int .i64 C,.int .i64 P] (by rfl) (by rfl) _ _ r1 (f2_info C P) rfl (f2_one C P) ?_; generalize hw2:(w1.alloc (.cells #[.int .i64 0,.int .i64 0] 65)).setRow w1.heap.size #[.int .i64 C,.int .i64 P] = w2 at HS HU y0 ⊢; clear hw2 r1 hb)
 go_ret2;exact ⟨_,rfl,TreeS.nil _,HS.out⟩
theorem slice_one (A:Option Addr) (n c:Nat):∀ u ∈ (#[.slice A n c]:Array Value).toList,u.oneCell' = true:=by
 intro u hu;simp only [List.mem_cons,List.not_mem_nil,or_false] at hu;subst hu;rfl
theorem ats_flat (gs:List F) (h:gs ≠ []):(F.cons 2 0 (join gs) .nil).flat 0 = (atsF gs).flat 0:=by
 cases gs with
 | nil => exact absurd rfl h
 | cons g l => rfl
set_option maxHeartbeats 8000000 in
theorem aro_2 (s:ByteArray) (C P:Int) (hC:(C != 0) = false) (L:List ByteArray) (hm:L.length <= 1000) (d1:PcR 43 s C P L) (dD:∀ x ∈ L,(okx x = true /\ DecT x 0 0 ((gOf x).flat 0)) ∨ (okx x = false /\ ∃ C P:Int,(C != 0) = true /\ DecT x C P [])) (r:List Nd × Bool)
   (hbad:(∃ x ∈ L,okx x = false) -> r = ([],false)) (hgood:(∀ x ∈ L,okx x = true) -> r = ((atsF (L.map gOf)).flat 0,true)) (hsg:(∀ x ∈ L,okx x = true) -> (∀ g ∈ L.map gOf,single g) /\ (join (L.map gOf)).cnt <= 1000):ArR 65 s r.1 r.2:=by
 obtain ⟨l0,hl0⟩:∃ n,n = L.length:=⟨_,rfl⟩
 have HL0:=lH hl0;have HDD:=lH dD;have HBD:=lH hbad;have HGD:=lH hgood;have HSG:=lH hsg;rw [<- hl0] at hm;clear dD hbad hgood hsg;intro w;have HS:=lH (Since.refl w)
 go_enter Tryz.func65,Tryz.ntmps65
 go_wp2_with fail;refine (d1 _).mono ?_;rintro _ w1 ⟨u1,rfl,hU,h1⟩;obtain ⟨A1,q1,e1,-,-⟩:=SlR.slice hU;subst e1;unfold F2;replace HS:=lH (HS.out.step h1);have r1:(w1.alloc (.cells #[.int .i64 0,.int .i64 0] 65)).heap[w1.heap.size]? = some (.cells #[.int .i64 0,.int .i64 0] 65 (0,0)):=heap_alloc_new w1 _;have hb:=lH (Tree.hb_row (K:=KT) (C':=#[.int .i64 C,.int .i64 P]) ((Since.refl w1).alloc _) (Nat.le_refl _) trivial r1);have y0:=hb.out.cell 0 _ rfl;replace HS:=lH (HS.out.step hb.out.since);have HU:=lH (SlR.since hU hb.out.since);clear hU h1;rw [<- hl0] at HU ⊢;clear hl0;go_wp2_with (refine RwL.at_store (ty:=65) rfl ?_; refine wpList_store_row rfl 65 _ _ rfl w1.heap.size #[.int .i64 C,.int .i64 P] (by rfl) (by rfl) _ _ r1 (f2_info C P) rfl (f2_one C P) ?_; generalize hw2:(w1.alloc (.cells #[.int .i64 0,.int .i64 0] 65)).setRow w1.heap.size #[.int .i64 C,.int .i64 P] = w2 at HS HU y0 ⊢; clear hw2 r1 hb)
 clear y0;have HS0:=HS;clear HS;go_loopw [6,21] (fun V i wr => ∃ (k:Nat) (vs:List Value),k <= l0 /\ i = .int .i64 (k:Int) /\ Hid (∀ x ∈ L.take k,okx x = true) /\ Hid (TRow w2 wr V vs ((L.take k).map fun x => (gOf x).flat 0)) /\ Hid (Since w2 wr)) (fun _ i _ => l0 - (intOf i).toNat)
 case atStart => exact ⟨0,[],Nat.zero_le _,rfl,lH (by simp),lH (TRow.nil _ _),lH (Since.refl w2)⟩
 case round =>
   obtain ⟨k,vs,hk,rfl,HA,HR,HS⟩:=hrel;obtain ⟨VA,vc,rfl,-⟩:=HR.out.val;have hvl:vs.length = k:=by rw [HR.out.len,List.length_map,List.length_take,Nat.min_eq_left (by rw [<- HL0.out]; exact hk)]
   have HVL:=lH hvl;rw [hvl];have HR9:=lH (show Rw.Rows wr w2.heap.size (([]:List Row) ++ ⟨75,1,.slice VA k vc,k,vs⟩ :: []) by have h9:=HR.out.row; rw [hvl] at h9; exact h9);clear hvl
   by_cases hlt:k < l0
   · obtain ⟨x,hx⟩:∃ x,L[k]? = some x:=⟨_,List.getElem?_eq_getElem (by rw [<- HL0.out]; exact hlt)⟩
     obtain ⟨b,o,c9,hv,f1,f2,f3,f4⟩:=SlR.form HU.out (by omega);obtain ⟨rfl,-,rfl⟩:=Value.slice.inj hv;have m0:=(Below.cell HS.out (p:=⟨b,o + k,none⟩) f3).trans (f4 k (.string x) (by rw [List.getElem?_map,hx]; rfl));have hmem:=List.mem_of_getElem? hx;have hdd:=HDD.out x hmem;have hts:=Att.take_snoc L k x hx;have HTS:=lH hts;have i1:(0:Int) <= (k:Int):=by omega
     have i2:(k:Int) < (l0:Int):=by omega
     have HMM:=lH hmem;clear hx hv f1 f2 f3 f4 hts hmem;rcases hdd with ⟨ho,cd⟩ | ⟨ho,C9,P9,hC9,cd⟩
     · have HO:=lH ho;clear ho;go_wp2_with fail;refine (cd _).mono ?_;rintro _ w4 ⟨u4,rfl,hU4,h4⟩;obtain ⟨A4,q4,e4,-,-⟩:=hU4.tree.slice;obtain ⟨n4,hn4⟩:∃ n,n = ((gOf x).flat 0).length:=⟨_,rfl⟩
       rw [<- hn4] at e4;subst e4;have r1:(w4.alloc (.cells #[.int .i64 0,.int .i64 0] 65)).heap[w4.heap.size]? = some (.cells #[.int .i64 0,.int .i64 0] 65 (0,0)):=heap_alloc_new w4 _;have hb:=lH (Tree.hb_row (K:=KT) (C':=#[.int .i64 0,.int .i64 0]) ((Since.refl w4).alloc _) (Nat.le_refl _) trivial r1);have y0:(World.setRow (w4.alloc (.cells #[.int .i64 0,.int .i64 0] 65)) w4.heap.size #[.int .i64 0,.int .i64 0]).cell? ⟨w4.heap.size,0,none⟩ = some (.int .i64 0):=hb.out.cell 0 _ rfl;have HS6:=lH ((HS.out.step h4).step hb.out.since);have HT6:=lH ((HR.out.since h4).since hb.out.since);have HR6:=lH (Rw.Rows.since (Rw.Rows.since HR9.out h4) hb.out.since);have HU6:=lH (hU4.since hb.out.since);have HB1:=lH (show k + 1 <= maxLen by unfold maxLen; omega);have HB2:=lH (show (k + 1) * 24 <= 140737488355328 by omega);have HLB:=lH (show ∀ g,(Value.slice VA k vc).ownBlock = some g -> g < wr.heap.size from fun g hg => (World.ownsRow.lt HR9.out.get g hg).2);have HWB:=lH (show wr.heap.size <= ((w4.alloc (.cells #[.int .i64 0,.int .i64 0] 65)).setRow w4.heap.size #[.int .i64 0,.int .i64 0]).heap.size from Nat.le_trans (Below.size h4) (Below.size hb.out.since));clear hU4 h4 HS HR HR9 m0 hn4;go_wp2_with (first
         | (refine RwL.at_store (ty:=65) rfl ?_; refine wpList_store_row rfl 65 _ _ rfl w4.heap.size #[.int .i64 0,.int .i64 0] (by rfl) (by rfl) _ _ r1 (f2_info 0 0) rfl (f2_one 0 0) ?_; generalize hw6:(w4.alloc (.cells #[.int .i64 0,.int .i64 0] 65)).setRow w4.heap.size #[.int .i64 0,.int .i64 0] = w6 at HS6 HT6 HR6 HU6 HWB y0 ⊢; clear hw6 r1 hb)
         | (at_builtin; refine app_rows2 elemTr rfl _ _ (by rfl) w2 w6 _ rfl [] [] _ k _ (by rfl) HR6.out HS6.out #[.slice A4 n4 q4] 1 1 (by rfl) rfl (slice_one A4 n4 q4) HB1.out HB2.out ?_; intro V2 w7 HQ2 HT2 HK2 HW2))
       have HF:Hid (TRow w2 w7 V2 (vs ++ [.slice A4 n4 q4]) ((L.take (k + 1)).map fun x => (gOf x).flat 0)):=lH (by
         rw [HTS.out,List.map_append];refine TRow.push (base:=wr.heap.size) (V:=.slice VA k vc) (by have h9:=HT6.out; rw [HVL.out] at h9; exact h9) HLB.out HU6.out HK2 HWB.out HW2 (by rw [HVL.out]; exact HQ2))
       have HS7:=lH HT2;have HA7:Hid (∀ x ∈ L.take (k + 1),okx x = true):=lH (fun z hz => by
         rw [HTS.out] at hz;rcases List.mem_append.1 hz with hz | hz
         · exact HA.out z hz
         · rw [List.mem_singleton.1 hz]; exact HO.out)
       clear HQ2 HT2 HK2 HW2;go_wp2_with fail;go_roundw
       case rel => exact ⟨k + 1,_,by omega,by go_num,HA7,HF,HS7⟩
       case measure => (simp [intOf] <;> omega)
     · have hr:=HBD.out ⟨x,HMM.out,ho⟩;go_wp2_with fail;refine (cd _).mono ?_;rintro _ w4 ⟨u4,rfl,hU4,h4⟩;obtain ⟨A4,q4,e4,-,-⟩:=hU4.tree.slice;subst e4;have r1:(w4.alloc (.cells #[.int .i64 0,.int .i64 0] 65)).heap[w4.heap.size]? = some (.cells #[.int .i64 0,.int .i64 0] 65 (0,0)):=heap_alloc_new w4 _;have hb:=lH (Tree.hb_row (K:=KT) (C':=#[.int .i64 C9,.int .i64 P9]) ((Since.refl w4).alloc _) (Nat.le_refl _) trivial r1);have y0:(World.setRow (w4.alloc (.cells #[.int .i64 0,.int .i64 0] 65)) w4.heap.size #[.int .i64 C9,.int .i64 P9]).cell? ⟨w4.heap.size,0,none⟩ = some (.int .i64 C9):=hb.out.cell 0 _ rfl;have HS6:=lH (HS0.out.step ((HS.out.step h4).step hb.out.since));have HRR:=lH hr;clear hU4 h4 HS HR HR9 m0 hr ho;go_wp2_with (refine RwL.at_store (ty:=65) rfl ?_; refine wpList_store_row rfl 65 _ _ rfl w4.heap.size #[.int .i64 C9,.int .i64 P9] (by rfl) (by rfl) _ _ r1 (f2_info C9 P9) rfl (f2_one C9 P9) ?_; generalize hw6:(w4.alloc (.cells #[.int .i64 0,.int .i64 0] 65)).setRow w4.heap.size #[.int .i64 C9,.int .i64 P9] = w6 at HS6 y0 ⊢; clear hw6 r1 hb)
       go_ret2;rw [HRR.out];exact ⟨_,rfl,TreeS.nil _,HS6.out⟩
   · obtain rfl:l0 = k:=by omega
     have ht:L.take l0 = L:=by rw [HL0.out,List.take_length]
     rw [ht] at HA HR;have hr:=HGD.out HA.out;obtain ⟨g1,g2⟩:=HSG.out HA.out;have HRR:=lH hr;have htr:TreesS wr (.slice VA l0 vc) ((L.map gOf).map fun g => g.flat 0):=by
       have h9:=HR.out.trees;rw [HVL.out] at h9;rw [List.map_map];exact h9
     have HTR:=lH htr;have HS9:=lH (HS0.out.step HS.out)
     by_cases h0:l0 = 0
     · have t1:((l0:Int) == 0) = true:=by rw [h0]; rfl
       have hL:L = []:=List.length_eq_zero_iff.1 (by rw [<- HL0.out]; exact h0);have HLL:=lH hL;clear hr g1 g2 htr HR HR9 hL HS;go_wp2_with fail;go_ret2;rw [HRR.out,HLL.out];exact ⟨_,rfl,TreeS.nil _,HS9.out⟩
     · have t1:((l0:Int) == 0) = false:=beq_eq_false_iff_ne.2 (by omega);have hof:=fun w P hP => of_g 2 0 (L.map gOf) g1 (by rw [List.length_map,<- HL0.out]; omega) g2 w P hP
       have hfl:=ats_flat (L.map gOf) (fun e => h0 (by rw [HL0.out,List.eq_nil_of_map_eq_nil e]; rfl));rw [hfl] at hof;have HOF:=lH hof;clear hr g1 g2 htr HR HR9 HS hof hfl;go_wp2_with fail;refine (HOF.out _ _ HTR.out).mono ?_;rintro _ w8 ⟨v8,rfl,t8,h8⟩;have HT8:=lH t8;have HS8:=lH (HS9.out.step h8);obtain ⟨A8,q8,rfl,-,-⟩:=t8.slice;clear t8 h8 HTR;go_wp2_with fail;go_ret2;rw [HRR.out];exact ⟨_,rfl,HT8.out,HS8.out⟩
end Pk
namespace Pk
open Tlv Tree Strs Rw
def Fst (w:World) (v:Value) (c t:Int):Prop:=∃ b o n cc,v = .slice (some ⟨b,o,none⟩) n cc /\ 0 < n /\ n <= cc /\ cc <= maxLen /\ b < w.heap.size /\ w.cell? ⟨b,o,none⟩ = some (.int .i64 c) /\ w.cell? ⟨b,o + 1,none⟩ = some (.int .i64 t)
theorem Fst.since {w w':World} {v:Value} {c t:Int} (h:Fst w v c t) (hs:Since w w'):Fst w' v c t:=by
 obtain ⟨b,o,n,cc,h1,h2,h3,h4,h5,h6,h7⟩:=h;exact ⟨b,o,n,cc,h1,h2,h3,h4,Nat.lt_of_lt_of_le h5 (Below.size hs),(Below.cell hs (p:=⟨b,o,none⟩) h5).trans h6,(Below.cell hs (p:=⟨b,o + 1,none⟩) h5).trans h7⟩
theorem fst_tree {w:World} {v:Value} {N:List Nd} {x:Nd} (h:TreeS w v N) (hx:N[0]? = some x):Fst w v x.c x.t:=by
 obtain ⟨b,o,cc,h1,h2,h3,h4,h5⟩:=h.form (List.getElem?_eq_some_iff.1 hx).1;obtain ⟨kv,m0,m1,-⟩:=h5 0 x hx;rw [Nat.zero_mul,Nat.add_zero] at m0 m1;exact ⟨b,o,N.length,cc,h1,(List.getElem?_eq_some_iff.1 hx).1,h2,h3,h4,m0,m1⟩
def tagsB (c t c0:Int) (ts:List Int):Bool:=ts.any fun x => (c == c0) && (t == x)
set_option maxHeartbeats 4000000 in
theorem is_rd (c t c0:Int) (ts:List Int) (h0:0 < ts.length) (q:Bool) (hq:q = tagsB c t c0 ts) (w:World) (v P:Value) (hv:Fst w v c t) (hP:IntsS w P ts):Calls Tryz.prog 69 #[v,.int .i64 c0,P] w fun e w' => e = .returned (.bool q) /\ Since w w':=by
 obtain ⟨b,o,n,cc,rfl,h1,h2,h3,h4,m0,m1⟩:=hv;obtain ⟨bp,op,cp,rfl,p1,p2,p3,p4⟩:=hP.form h0;have hle:=hP.le;obtain ⟨k0,hk0⟩:∃ k,k = ts.length:=⟨_,rfl⟩
 rw [<- hk0] at p1 h0 hle ⊢;have HC:=lH p4;have HN:=lH hk0;have HQ:=lH hq;have x0:(0:Int) < (n:Int):=by omega
 clear p4 hk0 hq hP
 go_enter Tryz.func69,Tryz.ntmps69
 go_wp2_with fail
 go_loop [11] (fun i => ∃ k:Nat,k <= k0 /\ i = .int .i64 (k:Int) /\ Hid (tagsB c t c0 (ts.take k) = false)) (fun i => k0 - (intOf i).toNat)
 case atStart => exact ⟨0,by omega,rfl,lH rfl⟩
 case round =>
   obtain ⟨k,hk,rfl,HA⟩:=hrel
   by_cases hlt:k < k0
   · have hkl:k < ts.length:=by rw [<- HN.out]; exact hlt
     obtain ⟨x,hx0⟩:∃ x,ts[k] = x:=⟨_,rfl⟩
     have hx:ts[k]? = some x:=by rw [List.getElem?_eq_getElem hkl,hx0]
     have m2:=HC.out k hkl;rw [show ts.getD k 0 = x by rw [List.getD_eq_getElem?_getD,hx]; rfl] at m2;clear hx0 hkl;have i1:(0:Int) <= (k:Int):=by omega
     have i2:(k:Int) < (k0:Int):=by omega
     have HA2:Hid (tagsB c t c0 (ts.take (k + 1)) = ((c == c0) && (t == x))):=lH (by
       have h9:=HA.out;unfold tagsB at h9 ⊢;rw [Att.take_snoc ts k _ hx,List.any_append,h9];simp)
     have HM:=lH (List.mem_of_getElem? hx);clear hx;cases hc:(c == c0)
     · have HA3:Hid (tagsB c t c0 (ts.take (k + 1)) = false):=lH (by rw [HA2.out,hc]; rfl);clear HA2;go_wp2_with fail
       go_round
       case rel => exact ⟨k + 1,by omega,by go_num,HA3⟩
       case measure => simp [intOf]; omega
     · cases ht:(t == x)
       · have HA3:Hid (tagsB c t c0 (ts.take (k + 1)) = false):=lH (by rw [HA2.out,hc,ht]; rfl);clear HA2;go_wp2_with fail
         go_round
         case rel => exact ⟨k + 1,by omega,by go_num,HA3⟩
         case measure => simp [intOf]; omega
       · have hqt:q = true:=by
           rw [HQ.out];unfold tagsB;rw [List.any_eq_true];exact ⟨x,HM.out,by rw [hc,ht]; rfl⟩
         subst hqt;clear HA2;go_wp2_with fail;go_ret;exact ⟨rfl,Since.refl w⟩
   · obtain rfl:k0 = k:=by omega
     have hqf:q = false:=by rw [HQ.out]; have h9:=HA.out; rw [HN.out,List.take_length] at h9; exact h9
     subst hqf;go_wp2_with fail;go_ret;exact ⟨rfl,Since.refl w⟩
theorem tail_slice {w:World} {b o n c:Nat} {N:List Nd} (h:TreeS w (.slice (some ⟨b,o,none⟩) n c) N) (hn:n = N.length) (h1:1 < n) :
   ∃ A',TreeS w (.slice A' (n - 1) (c - 1)) (N.drop 1) /\ ∀ W,(Instr.slice 75 (.slice (some ⟨b,o,none⟩) n c) (some (.int .i64 1)) none none).run Tryz.prog W = .ok (.slice A' (n - 1) (c - 1)) W:=by
 subst hn;have hc:=h.slice;obtain ⟨A,c2,hv,hc1,-⟩:=hc;obtain ⟨-,-,rfl⟩:=Value.slice.inj hv;obtain ⟨A',g1,g2⟩:=sub_slice h 1 N.length h1 (Nat.le_refl _);rw [List.take_length] at g1;refine ⟨A',g1,fun W => ?_⟩;have ht':Tryz.prog.underlying 75 = some (.slice (Tryz.prog.elem 75)):=by simp [Program.elem,Tryz.underlying75]
 have h9:=g2 W;rw [run_slice_lh W _ _ _ _ ht' .i64 .i64 _ _ (by omega) (by omega) (by omega)] at h9;rw [run_slice_l W _ _ _ _ ht' .i64 _ (by omega) (by omega)];rw [<- h9];rfl
theorem tail_slice2 {w:World} {b o n c:Nat} {N:List Nd} (h:TreeS w (.slice (some ⟨b,o,none⟩) n c) N) (hn:n = N.length) (h1:2 < n) :
   ∃ A',TreeS w (.slice A' (n - 2) (c - 2)) (N.drop 2) /\ ∀ W,(Instr.slice 75 (.slice (some ⟨b,o,none⟩) n c) (some (.int .i64 2)) none none).run Tryz.prog W = .ok (.slice A' (n - 2) (c - 2)) W:=by
 subst hn;have hc:=h.slice;obtain ⟨A,c2,hv,hc1,-⟩:=hc;obtain ⟨-,-,rfl⟩:=Value.slice.inj hv;obtain ⟨A',g1,g2⟩:=sub_slice h 2 N.length h1 (Nat.le_refl _);rw [List.take_length] at g1;refine ⟨A',g1,fun W => ?_⟩;have ht':Tryz.prog.underlying 75 = some (.slice (Tryz.prog.elem 75)):=by simp [Program.elem,Tryz.underlying75]
 have h9:=g2 W;rw [run_slice_lh W _ _ _ _ ht' .i64 .i64 _ _ (by omega) (by omega) (by omega)] at h9;rw [run_slice_l W _ _ _ _ ht' .i64 _ (by omega) (by omega)];rw [<- h9];rfl
theorem tags_lit (W:World) (t:Int):IntsS (W.alloc (.cells #[.int .i64 t] 3)) (.slice (some ⟨W.heap.size,0,none⟩) 1 1) [t]:=SlR.lit W 1 1 (([t]:List Int).map (Value.int .i64)) rfl (by decide) _ rfl 3
theorem tags_lit2 (W:World) (t u:Int):IntsS (W.alloc (.cells #[.int .i64 t,.int .i64 u] 3)) (.slice (some ⟨W.heap.size,0,none⟩) 2 2) [t,u]:=SlR.lit W 1 2 (([t,u]:List Int).map (Value.int .i64)) rfl (by decide) _ rfl 3
structure PF (wr:World) (b0 o0:Nat) (d:ByteArray) (b1 o1:Nat) (z:Value):Prop where
 lt:b0 < wr.heap.size
 cell:wr.cell? ⟨b0,o0 + 3,none⟩ = some (.string d)
 lt2:b1 < wr.heap.size
 cell2:wr.cell? ⟨b1,o1,none⟩ = some z
theorem PF.at_ {wr W:World} {b0 o0:Nat} {d:ByteArray} {b1 o1:Nat} {z:Value} (h:PF wr b0 o0 d b1 o1 z) (hs:Since wr W):W.cell? ⟨b0,o0 + 3,none⟩ = some (.string d) /\ W.cell? ⟨b1,o1,none⟩ = some z:=⟨(Below.cell hs (p:=⟨b0,o0 + 3,none⟩) h.lt).trans h.cell,(Below.cell hs (p:=⟨b1,o1,none⟩) h.lt2).trans h.cell2⟩
theorem drew_since2 (w:World):Since w w.drew:=⟨rfl,rfl,rfl,Nat.le_refl _,fun _ _ => rfl⟩
def RdQ (f:Nat) (Ns:List (List Nd)) (q:Bool):Prop:=∀ w P,TreesS w P Ns -> Calls Tryz.prog f #[P] w fun e w' => e = .returned (.bool q) /\ Since w w'
set_option maxHeartbeats 4000000 in
theorem proper_0 (Ns:List (List Nd)) (h3:Ns.length ≠ 3) (h4:Ns.length ≠ 4):RdQ 70 Ns false:=by
 intro w P hP;obtain ⟨A,c,rfl,-,-⟩:=hP.slice;have x3:((Ns.length:Int) != 3) = true:=bne_iff_ne.2 (by omega);have x4:((Ns.length:Int) != 4) = true:=bne_iff_ne.2 (by omega);obtain ⟨n,hn⟩:∃ n,n = Ns.length:=⟨_,rfl⟩
 rw [<- hn] at x3 x4 ⊢;clear hn hP h3 h4
 go_enter Tryz.func70,Tryz.ntmps70
 go_wp2_with fail;go_ret;exact ⟨rfl,Since.refl w⟩
end Pk
namespace Pk
open Tlv Tree Strs Rw
theorem step_nil (E:List Nd):stepN E [] = E:=if_pos rfl
theorem fold_nil (h0:List Nd) (Ns:List (List Nd)) (a:Nat):((Ns ++ [[]]).take a).foldl stepN h0 = (Ns.take a).foldl stepN h0:=by
 by_cases h:a <= Ns.length
 · rw [List.take_append_of_le_length h]
 · rw [List.take_of_length_le (by rw [List.length_append]; show Ns.length + 1 <= a; omega),List.take_of_length_le (by omega),List.foldl_append];exact step_nil _
theorem of_gn (c t:Nat) (gs:List F) (hs:∀ g ∈ gs,single g) (hn:gs.length <= 999) (hc:(join gs).cnt <= 1000) (w:World) (P:Value) (hP:TreesS w P (gs.map (fun g:F => g.flat 0) ++ [[]])):Calls Tryz.prog 54 #[.int .i64 (c:Int),.int .i64 (t:Int),P] w fun e w' => ∃ v',e = .returned v' /\ TreeS w' v' ((F.cons c t (join gs) .nil).flat 0) /\ Since w w':=by
 have key:∀ a,((gs.map (fun g:F => g.flat 0) ++ [[]]).take a).foldl stepN [⟨(c:Int),(t:Int),true,⟨#[]⟩,[]⟩] = (F.cons c t (join (gs.take a)) .nil).flat 0:=fun a => by
   rw [fold_nil,<- List.map_take];exact ofN_flat c t (gs.take a) (fun g hg => hs g (List.mem_of_mem_take hg))
 have hle:∀ a,(F.cons c t (join (gs.take a)) .nil).cnt <= 1001:=fun a => by
   show 1 + (join (gs.take a)).cnt + 0 <= 1001
   have:=join_take gs a;omega
 have h9:=of_mk (c:Int) (t:Int) (gs.map (fun g:F => g.flat 0) ++ [[]]) (fun N hN => by
     rcases List.mem_append.1 hN with hN | hN
     · obtain ⟨g,hg,rfl⟩:=List.mem_map.1 hN;exact fair_flat g (by have:=mem_join gs g hg; omega)
     · rw [List.mem_singleton.1 hN];exact fair_flat .nil (Nat.zero_le _)) (by rw [List.length_append,List.length_map]; show gs.length + 1 <= 1000; omega) (fun a => by rw [key a,F.flat_len]; have:=hle a; omega) (fun a x hx => by
     rw [key a] at hx;have:=(flat_k _ 0 x hx).1;have:=hle a;omega) w P hP
 have e:ofN (c:Int) (t:Int) (gs.map (fun g:F => g.flat 0) ++ [[]]) = (F.cons c t (join gs) .nil).flat 0:=by
   have h:=key (gs.length + 1);rw [List.take_of_length_le (by rw [List.length_append,List.length_map]; exact Nat.le_refl _),List.take_of_length_le (by omega)] at h;exact h
 rw [e] at h9;exact h9
theorem of_pk (nm:ByteArray) (pt:Nat) (pb key:ByteArray) (gs:List F) (hc:(join gs).cnt <= 900) (w:World) (P:Value) (hP:TreesS w P [[⟨0,2,false,⟨#[0]⟩,[]⟩],(algF nm pt pb).flat 0,[⟨0,4,false,key,[]⟩],(atsF gs).flat 0]):Calls Tryz.prog 54 #[.int .i64 0,.int .i64 16,P] w fun e w' => ∃ v',e = .returned v' /\ TreeS w' v' (pkN nm pt pb key gs) /\ Since w w':=by
 cases gs with
 | nil => exact of_gn 0 16 [.prim 0 2 ⟨#[0]⟩ .nil,algF nm pt pb,.prim 0 4 key .nil] (fun g hg => by
     simp only [List.mem_cons,List.not_mem_nil,or_false] at hg;rcases hg with rfl | rfl | rfl <;> exact rfl) (by show 3 <= 999; omega) (by show 1 + (1 + (1 + (1 + 0)) + (1 + 0)) <= 1000; omega) w P hP
 | cons g l =>
   have h:(join (g :: l)).cnt <= 900:=hc;have h2:(join [.prim 0 2 ⟨#[0]⟩ .nil,algF nm pt pb,.prim 0 4 key .nil,atsF (g :: l)]).cnt <= 1000:=by
     show 1 + (1 + (1 + (1 + 0)) + (1 + (1 + (join (g :: l)).cnt + 0))) <= 1000
     omega
   exact of_g 0 16 [.prim 0 2 ⟨#[0]⟩ .nil,algF nm pt pb,.prim 0 4 key .nil,atsF (g :: l)] (fun g hg => by
     simp only [List.mem_cons,List.not_mem_nil,or_false] at hg;rcases hg with rfl | rfl | rfl | rfl <;> exact rfl) (by show 4 <= 1000; omega) h2 w P hP
def RdP (f:Nat) (xs ps:List Int) (key attrs:ByteArray) (v:Value):Prop:=∀ w a b,IntsS w a xs -> IntsS w b ps -> Calls Tryz.prog f #[.agg #[a,b,.string key,.string attrs]] w fun e w' => e = .returned v /\ Since w w'
structure BX (W:World) (g:Nat) (a b:Value) (key attrs:ByteArray):Prop where
 lt:g < W.heap.size
 c0:W.cell? ⟨g,0,none⟩ = some a
 c1:W.cell? ⟨g,1,none⟩ = some b
 c2:W.cell? ⟨g,2,none⟩ = some (.string key)
 c3:W.cell? ⟨g,3,none⟩ = some (.string attrs)
theorem BX.since {W W':World} {g:Nat} {a b:Value} {key attrs:ByteArray} (h:BX W g a b key attrs) (hs:Since W W'):BX W' g a b key attrs :=
 ⟨Nat.lt_of_lt_of_le h.lt (Below.size hs),(Below.cell hs (p:=⟨g,0,none⟩) h.lt).trans h.c0,(Below.cell hs (p:=⟨g,1,none⟩) h.lt).trans h.c1,(Below.cell hs (p:=⟨g,2,none⟩) h.lt).trans h.c2,(Below.cell hs (p:=⟨g,3,none⟩) h.lt).trans h.c3⟩
theorem BX.new (w:World) (a b:Value) (key attrs:ByteArray) (t:TypeId):BX (w.alloc (.cells #[a,b,.string key,.string attrs] t)) w.heap.size a b key attrs :=
 ⟨by simp,(World.cell?_alloc_new _ _ _ _).trans rfl,(World.cell?_alloc_new _ _ _ _).trans rfl,(World.cell?_alloc_new _ _ _ _).trans rfl,(World.cell?_alloc_new _ _ _ _).trans rfl⟩
theorem penc_1 (xs ps:List Int) (key attrs nm:ByteArray) (c1:∀ w v,IntsS w v xs -> Calls Tryz.prog 50 #[v] w fun e w' => e = .returned (.tuple #[.string nm,.bool false]) /\ Since w w'):RdP 27 xs ps key attrs (.tuple #[.string ⟨#[]⟩,.int .i64 1]):=by
 intro w a b ha hb;obtain ⟨A,c,rfl,-,-⟩:=ha.slice;obtain ⟨B,d,rfl,-,-⟩:=hb.slice;obtain ⟨n,hn⟩:∃ n,n = xs.length:=⟨_,rfl⟩
 obtain ⟨m,hm⟩:∃ n,n = ps.length:=⟨_,rfl⟩
 rw [<- hn] at ha ⊢;rw [<- hm] at hb ⊢;have hs0:=(Since.refl w).alloc (.cells #[.slice A n c,.slice B m d,.string key,.string attrs] 48);have HX:=lH (SlR.since ha hs0);have HP:=lH (SlR.since hb hs0);have HS:=lH hs0;have HBX:=lH (BX.new w (.slice A n c) (.slice B m d) key attrs 48);have HM:=lH (And.intro hn hm);obtain ⟨-,b0,b1,b2,b3⟩:=HBX.out;clear ha hb hs0 hn hm
 go_enter Tryz.func27,Tryz.ntmps27
 go_wp2_with fail;refine (c1 _ _ HX.out).mono ?_;rintro _ w1 ⟨rfl,h1⟩;replace HS:=lH (HS.out.step h1);replace HBX:=lH (HBX.out.since h1);replace HP:=lH (SlR.since HP.out h1);clear b0 b1 b2 b3 h1;obtain ⟨-,b0,b1,b2,b3⟩:=HBX.out;go_wp2_with fail;go_ret2;exact ⟨rfl,HS.out⟩
theorem penc_2 (xs ps:List Int) (key attrs nm pb:ByteArray) (h0:0 < ps.length) (c1:∀ w v,IntsS w v xs -> Calls Tryz.prog 50 #[v] w fun e w' => e = .returned (.tuple #[.string nm,.bool true]) /\ Since w w') (c2:∀ w v,IntsS w v ps -> Calls Tryz.prog 50 #[v] w fun e w' => e = .returned (.tuple #[.string pb,.bool false]) /\ Since w w'):RdP 27 xs ps key attrs (.tuple #[.string ⟨#[]⟩,.int .i64 1]):=by
 intro w a b ha hb;obtain ⟨A,c,rfl,-,-⟩:=ha.slice;obtain ⟨B,d,rfl,-,-⟩:=hb.slice;obtain ⟨n,hn⟩:∃ n,n = xs.length:=⟨_,rfl⟩
 obtain ⟨m,hm⟩:∃ n,n = ps.length:=⟨_,rfl⟩
 rw [<- hn] at ha ⊢;rw [<- hm] at hb ⊢;have hs0:=(Since.refl w).alloc (.cells #[.slice A n c,.slice B m d,.string key,.string attrs] 48);have HX:=lH (SlR.since ha hs0);have HP:=lH (SlR.since hb hs0);have HS:=lH hs0;have HBX:=lH (BX.new w (.slice A n c) (.slice B m d) key attrs 48);have HM:=lH (And.intro hn hm);obtain ⟨-,b0,b1,b2,b3⟩:=HBX.out;clear ha hb hs0 hn hm
 go_enter Tryz.func27,Tryz.ntmps27
 go_wp2_with fail;have t1:decide ((0:Int) < (m:Int)) = true:=decide_eq_true (by have:=HM.out.2; omega);have t2:decide (0 < m) = true:=decide_eq_true (by have:=HM.out.2; omega);refine (c1 _ _ HX.out).mono ?_;rintro _ w1 ⟨rfl,h1⟩;clear HX;replace HS:=lH (HS.out.step h1);replace HBX:=lH (HBX.out.since h1);replace HP:=lH (SlR.since HP.out h1);clear b0 b1 b2 b3 h1;obtain ⟨-,b0,b1,b2,b3⟩:=HBX.out;go_wp2_with fail;refine (leaf_mk 0 5 ⟨#[]⟩ _).mono ?_;rintro _ w2 ⟨v2,rfl,t2,h2⟩;obtain ⟨AP,QP,e2,-,-⟩:=t2.slice;replace e2:v2 = .slice AP 1 QP:=e2;subst e2;have TP:=lH t2;clear t2;replace HS:=lH (HS.out.step h2);replace HBX:=lH (HBX.out.since h2);replace HP:=lH (SlR.since HP.out h2);clear b0 b1 b2 b3 h2;obtain ⟨-,b0,b1,b2,b3⟩:=HBX.out;go_wp2_with fail;refine (c2 _ _ HP.out).mono ?_;rintro _ w3 ⟨rfl,h3⟩;replace HS:=lH (HS.out.step h3);replace HBX:=lH (HBX.out.since h3);replace HP:=lH (SlR.since HP.out h3);clear b0 b1 b2 b3 h3;obtain ⟨-,b0,b1,b2,b3⟩:=HBX.out;go_wp2_with fail;go_ret2;exact ⟨rfl,HS.out⟩
def ParE (ps:List Int) (pt:Nat) (pb:ByteArray):Prop:=(ps.length = 0 /\ pt = 5 /\ pb = ⟨#[]⟩) ∨ (0 < ps.length /\ pt = 6 /\ ∀ w v,IntsS w v ps -> Calls Tryz.prog 50 #[v] w fun e w' => e = .returned (.tuple #[.string pb,.bool true]) /\ Since w w')
theorem penc_3 (xs ps:List Int) (key attrs nm:ByteArray) (pt:Nat) (pb:ByteArray) (c1:∀ w v,IntsS w v xs -> Calls Tryz.prog 50 #[v] w fun e w' => e = .returned (.tuple #[.string nm,.bool true]) /\ Since w w') (hp:ParE ps pt pb) (c3:ArR 65 attrs [] false):RdP 27 xs ps key attrs (.tuple #[.string ⟨#[]⟩,.int .i64 1]):=by
 intro w a b ha hb;obtain ⟨A,c,rfl,-,-⟩:=ha.slice;obtain ⟨B,d,rfl,-,-⟩:=hb.slice;obtain ⟨n,hn⟩:∃ n,n = xs.length:=⟨_,rfl⟩
 obtain ⟨m,hm⟩:∃ n,n = ps.length:=⟨_,rfl⟩
 rw [<- hn] at ha ⊢;rw [<- hm] at hb ⊢;have hs0:=(Since.refl w).alloc (.cells #[.slice A n c,.slice B m d,.string key,.string attrs] 48);have HX:=lH (SlR.since ha hs0);have HP:=lH (SlR.since hb hs0);have HS:=lH hs0;have HBX:=lH (BX.new w (.slice A n c) (.slice B m d) key attrs 48);have HM:=lH (And.intro hn hm);obtain ⟨-,b0,b1,b2,b3⟩:=HBX.out;clear ha hb hs0 hn hm
 go_enter Tryz.func27,Tryz.ntmps27
 go_wp2_with fail;rcases hp with ⟨h0,hpt,hpb⟩ | ⟨h0,hpt,c2⟩
 · have t1:decide ((0:Int) < (m:Int)) = false:=decide_eq_false (by have:=HM.out.2; omega);have t2:decide (0 < m) = false:=decide_eq_false (by have:=HM.out.2; omega);have HPT:=lH (And.intro hpt hpb);clear hpt hpb;refine (c1 _ _ HX.out).mono ?_;rintro _ w1 ⟨rfl,h1⟩;clear HX;replace HS:=lH (HS.out.step h1);replace HBX:=lH (HBX.out.since h1);replace HP:=lH (SlR.since HP.out h1);clear b0 b1 b2 b3 h1;obtain ⟨-,b0,b1,b2,b3⟩:=HBX.out;go_wp2_with fail;refine (leaf_mk 0 5 ⟨#[]⟩ _).mono ?_;rintro _ w2 ⟨v2,rfl,t2,h2⟩;obtain ⟨AP,QP,e2,-,-⟩:=t2.slice;replace e2:v2 = .slice AP 1 QP:=e2;subst e2;have TP:=lH t2;clear t2;replace HS:=lH (HS.out.step h2);replace HBX:=lH (HBX.out.since h2);replace HP:=lH (SlR.since HP.out h2);clear b0 b1 b2 b3 h2;obtain ⟨-,b0,b1,b2,b3⟩:=HBX.out;replace TP:Hid (TreeS w2 (.slice AP 1 QP) ((F.prim 0 pt pb .nil).flat 0)):=lH (by rw [HPT.out.1,HPT.out.2]; exact TP.out);clear HP HM HPT;go_wp2_with fail;refine (c3 _).mono ?_;rintro _ w5 ⟨v5,rfl,t5,h5⟩;obtain ⟨A5,q5,e5,-,-⟩:=t5.slice;subst e5;replace HS:=lH (HS.out.step h5);clear t5 h5 TP;go_wp2_with fail;go_ret2;exact ⟨rfl,HS.out⟩
 · have t1:decide ((0:Int) < (m:Int)) = true:=decide_eq_true (by have:=HM.out.2; omega);have t2:decide (0 < m) = true:=decide_eq_true (by have:=HM.out.2; omega);have HPT:=lH hpt;clear hpt;refine (c1 _ _ HX.out).mono ?_;rintro _ w1 ⟨rfl,h1⟩;clear HX;replace HS:=lH (HS.out.step h1);replace HBX:=lH (HBX.out.since h1);replace HP:=lH (SlR.since HP.out h1);clear b0 b1 b2 b3 h1;obtain ⟨-,b0,b1,b2,b3⟩:=HBX.out;go_wp2_with fail;refine (leaf_mk 0 5 ⟨#[]⟩ _).mono ?_;rintro _ w2 ⟨v2,rfl,t2,h2⟩;obtain ⟨A0,Q0,e2,-,-⟩:=t2.slice;replace e2:v2 = .slice A0 1 Q0:=e2;subst e2;clear t2;replace HS:=lH (HS.out.step h2);replace HBX:=lH (HBX.out.since h2);replace HP:=lH (SlR.since HP.out h2);clear b0 b1 b2 b3 h2;obtain ⟨-,b0,b1,b2,b3⟩:=HBX.out;go_wp2_with fail;refine (c2 _ _ HP.out).mono ?_;rintro _ w3 ⟨rfl,h3⟩;replace HS:=lH (HS.out.step h3);replace HBX:=lH (HBX.out.since h3);replace HP:=lH (SlR.since HP.out h3);clear b0 b1 b2 b3 h3;obtain ⟨-,b0,b1,b2,b3⟩:=HBX.out;go_wp2_with fail;refine (leaf_mk 0 6 pb _).mono ?_;rintro _ w4 ⟨v4,rfl,t4,h4⟩;obtain ⟨AP,QP,e4,-,-⟩:=t4.slice;replace e4:v4 = .slice AP 1 QP:=e4;subst e4;have TP:Hid (TreeS w4 (.slice AP 1 QP) ((F.prim 0 pt pb .nil).flat 0)):=lH (by rw [HPT.out]; exact t4);clear t4 HPT;replace HS:=lH (HS.out.step h4);replace HBX:=lH (HBX.out.since h4);replace HP:=lH (SlR.since HP.out h4);clear b0 b1 b2 b3 h4;obtain ⟨-,b0,b1,b2,b3⟩:=HBX.out;clear HP HM;go_wp2_with fail;refine (c3 _).mono ?_;rintro _ w5 ⟨v5,rfl,t5,h5⟩;obtain ⟨A5,q5,e5,-,-⟩:=t5.slice;subst e5;replace HS:=lH (HS.out.step h5);clear t5 h5 TP;go_wp2_with fail;go_ret2;exact ⟨rfl,HS.out⟩
structure KK (wr:World) (g:Nat) (key:ByteArray):Prop where
 lt:g < wr.heap.size
 c2:wr.cell? ⟨g,2,none⟩ = some (.string key)
theorem KK.at_ {wr W:World} {g:Nat} {key:ByteArray} (h:KK wr g key) (hs:Since wr W):W.cell? ⟨g,2,none⟩ = some (.string key):=(Below.cell hs (p:=⟨g,2,none⟩) h.lt).trans h.c2
theorem drew_sp (w:World):Since w w.drew:=⟨rfl,rfl,rfl,Nat.le_refl _,fun _ _ => rfl⟩
set_option maxHeartbeats 8000000 in
theorem penc_4 (xs ps:List Int) (key attrs nm:ByteArray) (pt:Nat) (pb:ByteArray) (gs:List F) (hc:(join gs).cnt <= 900) (c0:Mak 66 #[.int .i64 0] (.string ⟨#[0]⟩)) (c1:∀ w v,IntsS w v xs -> Calls Tryz.prog 50 #[v] w fun e w' => e = .returned (.tuple #[.string nm,.bool true]) /\ Since w w') (hp:ParE ps pt pb) (c3:ArR 65 attrs ((atsF gs).flat 0) true) (X:ByteArray) (E:Int) (c5:RdT 53 (pkN nm pt pb key gs) (fun v => #[v]) (.tuple #[.string X,.int .i64 E])):RdP 27 xs ps key attrs (.tuple #[.string X,.int .i64 E]):=by
 intro w a b ha hb;obtain ⟨A,c,rfl,-,-⟩:=ha.slice;obtain ⟨B,d,rfl,-,-⟩:=hb.slice;obtain ⟨n,hn⟩:∃ n,n = xs.length:=⟨_,rfl⟩
 obtain ⟨m,hm⟩:∃ n,n = ps.length:=⟨_,rfl⟩
 rw [<- hn] at ha ⊢;rw [<- hm] at hb ⊢;have hs0:=(Since.refl w).alloc (.cells #[.slice A n c,.slice B m d,.string key,.string attrs] 48);have HX:=lH (SlR.since ha hs0);have HP:=lH (SlR.since hb hs0);have HS:=lH hs0;have HBX:=lH (BX.new w (.slice A n c) (.slice B m d) key attrs 48);have HM:=lH (And.intro hn hm);obtain ⟨-,b0,b1,b2,b3⟩:=HBX.out;clear ha hb hs0 hn hm
 go_enter Tryz.func27,Tryz.ntmps27
 go_wp2_with fail;rcases hp with ⟨h0,hpt,hpb⟩ | ⟨h0,hpt,c2⟩
 · have t1:decide ((0:Int) < (m:Int)) = false:=decide_eq_false (by have:=HM.out.2; omega);have t2:decide (0 < m) = false:=decide_eq_false (by have:=HM.out.2; omega);have HPT:=lH (And.intro hpt hpb);clear hpt hpb;refine (c1 _ _ HX.out).mono ?_;rintro _ w1 ⟨rfl,h1⟩;clear HX;replace HS:=lH (HS.out.step h1);replace HBX:=lH (HBX.out.since h1);replace HP:=lH (SlR.since HP.out h1);clear b0 b1 b2 b3 h1;obtain ⟨-,b0,b1,b2,b3⟩:=HBX.out;go_wp2_with fail;refine (leaf_mk 0 5 ⟨#[]⟩ _).mono ?_;rintro _ w2 ⟨v2,rfl,t2,h2⟩;obtain ⟨AP,QP,e2,-,-⟩:=t2.slice;replace e2:v2 = .slice AP 1 QP:=e2;subst e2;have TP:=lH t2;clear t2;replace HS:=lH (HS.out.step h2);replace HBX:=lH (HBX.out.since h2);replace HP:=lH (SlR.since HP.out h2);clear b0 b1 b2 b3 h2;obtain ⟨-,b0,b1,b2,b3⟩:=HBX.out;replace TP:Hid (TreeS w2 (.slice AP 1 QP) ((F.prim 0 pt pb .nil).flat 0)):=lH (by rw [HPT.out.1,HPT.out.2]; exact TP.out);clear HP HM HPT;go_wp2_with fail;refine (c3 _).mono ?_;rintro _ wS ⟨v5,rfl,t5,h5⟩;obtain ⟨A5,q5,e5,-,-⟩:=t5.slice;obtain ⟨n5,hn5⟩:∃ n,n = ((atsF gs).flat 0).length:=⟨_,rfl⟩
   rw [<- hn5] at e5;subst e5;replace HS:=lH (HS.out.step h5);replace HBX:=lH (HBX.out.since h5);replace TP:=lH (TP.out.since h5);have TA:=lH t5;clear t5 h5 b0 b1 b2 b3 hn5;have HKK:=lH (show KK wS w.heap.size key from ⟨HBX.out.lt,HBX.out.c2⟩);obtain ⟨g,hg⟩:∃ g,g = w.heap.size:=⟨_,rfl⟩
   rw [<- hg] at HKK ⊢;clear HBX hg;go_wp2_with fail;have HB:Hid (Since wS wS):=lH (Since.refl wS);refine RegW.start (fun W' => Hid (Since wS W') /\ W'.cell? ⟨g,2,none⟩ = some (.string key)) 17 (by kernel_rfl) ⟨lH (HB.out.step (drew_sp _)),HKK.out.at_ (HB.out.step (drew_sp _))⟩ (fun hHeld => ?_);replace HB:=lH (HB.out.step (drew_sp wS));obtain ⟨wa,hwa⟩:∃ W,W = wS.drew:=⟨_,rfl⟩
   rw [<- hwa] at HB hHeld ⊢;clear hwa;refine RegW.tk 2 rfl ?_;try simp only [RegW.p]
   refine RegW.tk 4 rfl ?_;try simp only [RegW.p]
   refine RegW.tk 7 rfl ?_;try simp only [RegW.p]
   refine RegW.tk 8 rfl ?_;try simp only [RegW.p]
   refine RegW.tk 10 rfl ?_;try simp only [RegW.p]
   refine RegW.only (i:=0) rfl (by kernel_rfl) (fun K hK => ?_);go_simp;go_at_call 66;refine c0.calls0 ?_;intro wb hq;replace HB:=lH (HB.out.step hq);clear hq;refine hK.out _ _ ⟨HB,HKK.out.at_ HB.out⟩ (fun hHeld => ?_);clear hK K;try simp only [RegW.p]
   refine RegW.only (i:=1) rfl (by kernel_rfl) (fun K hK => ?_);go_simp;go_at_call 52;refine (leaf_mk 0 2 ⟨#[0]⟩ _).mono ?_;rintro _ wc ⟨vq,rfl,tq,hq⟩;obtain ⟨A6,Q6,eq,-,-⟩:=tq.slice;replace eq:vq = .slice A6 1 Q6:=eq;subst eq;replace HB:=lH (HB.out.step hq);have T1:=lH tq;clear tq hq;refine hK.out _ _ ⟨HB,HKK.out.at_ HB.out⟩ (fun hHeld => ?_);clear hK K;try simp only [RegW.p]
   refine RegW.only (i:=3) rfl (by kernel_rfl) (fun K hK => ?_);go_simp;go_at_call 52;refine (leaf_mk 0 6 nm _).mono ?_;rintro _ wd ⟨vq,rfl,tq,hq⟩;obtain ⟨A7,Q7,eq,-,-⟩:=tq.slice;replace eq:vq = .slice A7 1 Q7:=eq;subst eq;replace HB:=lH (HB.out.step hq);have T3:=lH tq;replace T1:=lH (T1.out.since hq);clear tq hq;refine hK.out _ _ ⟨HB,HKK.out.at_ HB.out⟩ (fun hHeld => ?_);clear hK K;try simp only [RegW.p]
   refine RegW.only (i:=5) rfl (by kernel_rfl) (fun K hK => ?_);go_simp;have hq:=(Since.refl wd).alloc (.cells #[.slice A7 1 Q7,.slice AP 1 QP] 75);have T5:=lH (trees_lit wd [.slice A7 1 Q7,.slice AP 1 QP] ([F.prim 0 6 nm .nil,F.prim 0 pt pb .nil].map (fun g => g.flat 0)) rfl (by show 2 <= 1000; omega) (fun j x N hx hN => by
     have hj:j < 2:=by have:=(List.getElem?_eq_some_iff.1 hx).1; simpa using this
     match j,hj with
     | 0,_ => cases hx; cases hN; exact T3.out
     | 1,_ => cases hx; cases hN; exact TP.out.since HB.out) #[.slice A7 1 Q7,.slice AP 1 QP] rfl 75)
   replace HB:=lH (HB.out.step hq);replace T1:=lH (T1.out.since hq);clear hq T3;refine hK.out _ _ ⟨HB,HKK.out.at_ HB.out⟩ (fun hHeld => ?_);clear hK K;try simp only [RegW.p]
   refine RegW.only (i:=6) rfl (by kernel_rfl) (fun K hK => ?_);go_simp;go_at_call 54;refine (of_g 0 16 [F.prim 0 6 nm .nil,F.prim 0 pt pb .nil] (fun g hg => by
     simp only [List.mem_cons,List.not_mem_nil,or_false] at hg;rcases hg with rfl | rfl <;> exact rfl) (by show 2 <= 1000; omega) (by show 1 + (1 + 0) <= 1000; omega) _ _ T5.out).mono ?_
   rintro _ wf ⟨vq,rfl,tq,hq⟩;obtain ⟨A8,Q8,eq,-,-⟩:=tq.slice;replace eq:vq = .slice A8 3 Q8:=eq;subst eq;replace HB:=lH (HB.out.step hq);replace T1:=lH (T1.out.since hq);have T6:=lH (show TreeS wf (.slice A8 3 Q8) ((algF nm pt pb).flat 0) from tq);clear tq hq T5;refine hK.out _ _ ⟨HB,HKK.out.at_ HB.out⟩ (fun hHeld => ?_);clear hK K;try simp only [RegW.p]
   refine RegW.only (i:=9) rfl (by kernel_rfl) (fun K hK => ?_);go_simp;go_at_call 52;refine (leaf_mk 0 4 key _).mono ?_;rintro _ wg ⟨vq,rfl,tq,hq⟩;obtain ⟨A9,Q9,eq,-,-⟩:=tq.slice;replace eq:vq = .slice A9 1 Q9:=eq;subst eq;replace HB:=lH (HB.out.step hq);have T9:=lH tq;replace T1:=lH (T1.out.since hq);replace T6:=lH (T6.out.since hq);clear tq hq;refine hK.out _ _ ⟨HB,HKK.out.at_ HB.out⟩ (fun hHeld => ?_);clear hK K;try simp only [RegW.p]
   refine RegW.only (i:=11) rfl (by kernel_rfl) (fun K hK => ?_);go_simp;have hq:=(Since.refl wg).alloc (.cells #[.slice A6 1 Q6,.slice A8 3 Q8,.slice A9 1 Q9,.slice A5 n5 q5] 75);have T11:=lH (trees_lit wg [.slice A6 1 Q6,.slice A8 3 Q8,.slice A9 1 Q9,.slice A5 n5 q5] [[⟨0,2,false,⟨#[0]⟩,[]⟩],(algF nm pt pb).flat 0,[⟨0,4,false,key,[]⟩],(atsF gs).flat 0] rfl (by show 4 <= 1000; omega) (fun j x N hx hN => by
     have hj:j < 4:=by have:=(List.getElem?_eq_some_iff.1 hx).1; simpa using this
     match j,hj with
     | 0,_ => cases hx; cases hN; exact T1.out
     | 1,_ => cases hx; cases hN; exact T6.out
     | 2,_ => cases hx; cases hN; exact T9.out
     | 3,_ => cases hx; cases hN; exact TA.out.since HB.out) #[.slice A6 1 Q6,.slice A8 3 Q8,.slice A9 1 Q9,.slice A5 n5 q5] rfl 75)
   replace HB:=lH (HB.out.step hq);clear hq T1 T6 T9;refine hK.out _ _ ⟨HB,HKK.out.at_ HB.out⟩ (fun hHeld => ?_);clear hK K;try simp only [RegW.p]
   refine RegW.only (i:=12) rfl (by kernel_rfl) (fun K hK => ?_);go_simp;go_at_call 54;refine (of_pk nm pt pb key gs hc _ _ T11.out).mono ?_;rintro _ wh ⟨vq,rfl,tq,hq⟩;obtain ⟨A10,Q10,eq,-,-⟩:=tq.slice;obtain ⟨nt,hnt⟩:∃ n,n = (pkN nm pt pb key gs).length:=⟨_,rfl⟩
   rw [<- hnt] at eq;subst eq;replace HB:=lH (HB.out.step hq);have T12:=lH tq;clear tq hq T11 hnt;refine hK.out _ _ ⟨HB,HKK.out.at_ HB.out⟩ (fun hHeld => ?_);clear hK K;try simp only [RegW.p]
   refine RegW.only (i:=13) rfl (by kernel_rfl) (fun K hK => ?_);go_simp;go_at_call 53;refine c5.calls0 T12.out ?_;intro wi hq;replace HB:=lH (HB.out.step hq);clear hq T12;refine hK.out _ _ ⟨HB,HKK.out.at_ HB.out⟩ (fun hHeld => ?_);clear hK K;try simp only [RegW.p]
   refine RegW.tk 14 rfl ?_;try simp only [RegW.p]
   refine RegW.tk 15 rfl ?_;try simp only [RegW.p]
   refine RegW.tk 16 rfl ?_;try simp only [RegW.p]
   refine RegW.last rfl (by kernel_rfl) (by kernel_rfl) ?_;clear hHeld;go_wp2_with fail;go_ret2;exact ⟨rfl,HS.out.step HB.out⟩
 · have t1:decide ((0:Int) < (m:Int)) = true:=decide_eq_true (by have:=HM.out.2; omega);have t2:decide (0 < m) = true:=decide_eq_true (by have:=HM.out.2; omega);have HPT:=lH hpt;clear hpt;refine (c1 _ _ HX.out).mono ?_;rintro _ w1 ⟨rfl,h1⟩;clear HX;replace HS:=lH (HS.out.step h1);replace HBX:=lH (HBX.out.since h1);replace HP:=lH (SlR.since HP.out h1);clear b0 b1 b2 b3 h1;obtain ⟨-,b0,b1,b2,b3⟩:=HBX.out;go_wp2_with fail;refine (leaf_mk 0 5 ⟨#[]⟩ _).mono ?_;rintro _ w2 ⟨v2,rfl,t2,h2⟩;obtain ⟨A0,Q0,e2,-,-⟩:=t2.slice;replace e2:v2 = .slice A0 1 Q0:=e2;subst e2;clear t2;replace HS:=lH (HS.out.step h2);replace HBX:=lH (HBX.out.since h2);replace HP:=lH (SlR.since HP.out h2);clear b0 b1 b2 b3 h2;obtain ⟨-,b0,b1,b2,b3⟩:=HBX.out;go_wp2_with fail;refine (c2 _ _ HP.out).mono ?_;rintro _ w3 ⟨rfl,h3⟩;replace HS:=lH (HS.out.step h3);replace HBX:=lH (HBX.out.since h3);replace HP:=lH (SlR.since HP.out h3);clear b0 b1 b2 b3 h3;obtain ⟨-,b0,b1,b2,b3⟩:=HBX.out;go_wp2_with fail;refine (leaf_mk 0 6 pb _).mono ?_;rintro _ w4 ⟨v4,rfl,t4,h4⟩;obtain ⟨AP,QP,e4,-,-⟩:=t4.slice;replace e4:v4 = .slice AP 1 QP:=e4;subst e4;have TP:Hid (TreeS w4 (.slice AP 1 QP) ((F.prim 0 pt pb .nil).flat 0)):=lH (by rw [HPT.out]; exact t4);clear t4 HPT;replace HS:=lH (HS.out.step h4);replace HBX:=lH (HBX.out.since h4);replace HP:=lH (SlR.since HP.out h4);clear b0 b1 b2 b3 h4;obtain ⟨-,b0,b1,b2,b3⟩:=HBX.out;clear HP HM;go_wp2_with fail;refine (c3 _).mono ?_;rintro _ wS ⟨v5,rfl,t5,h5⟩;obtain ⟨A5,q5,e5,-,-⟩:=t5.slice;obtain ⟨n5,hn5⟩:∃ n,n = ((atsF gs).flat 0).length:=⟨_,rfl⟩
   rw [<- hn5] at e5;subst e5;replace HS:=lH (HS.out.step h5);replace HBX:=lH (HBX.out.since h5);replace TP:=lH (TP.out.since h5);have TA:=lH t5;clear t5 h5 b0 b1 b2 b3 hn5;have HKK:=lH (show KK wS w.heap.size key from ⟨HBX.out.lt,HBX.out.c2⟩);obtain ⟨g,hg⟩:∃ g,g = w.heap.size:=⟨_,rfl⟩
   rw [<- hg] at HKK ⊢;clear HBX hg;go_wp2_with fail;have HB:Hid (Since wS wS):=lH (Since.refl wS);refine RegW.start (fun W' => Hid (Since wS W') /\ W'.cell? ⟨g,2,none⟩ = some (.string key)) 17 (by kernel_rfl) ⟨lH (HB.out.step (drew_sp _)),HKK.out.at_ (HB.out.step (drew_sp _))⟩ (fun hHeld => ?_);replace HB:=lH (HB.out.step (drew_sp wS));obtain ⟨wa,hwa⟩:∃ W,W = wS.drew:=⟨_,rfl⟩
   rw [<- hwa] at HB hHeld ⊢;clear hwa;refine RegW.tk 2 rfl ?_;try simp only [RegW.p]
   refine RegW.tk 4 rfl ?_;try simp only [RegW.p]
   refine RegW.tk 7 rfl ?_;try simp only [RegW.p]
   refine RegW.tk 8 rfl ?_;try simp only [RegW.p]
   refine RegW.tk 10 rfl ?_;try simp only [RegW.p]
   refine RegW.only (i:=0) rfl (by kernel_rfl) (fun K hK => ?_);go_simp;go_at_call 66;refine c0.calls0 ?_;intro wb hq;replace HB:=lH (HB.out.step hq);clear hq;refine hK.out _ _ ⟨HB,HKK.out.at_ HB.out⟩ (fun hHeld => ?_);clear hK K;try simp only [RegW.p]
   refine RegW.only (i:=1) rfl (by kernel_rfl) (fun K hK => ?_);go_simp;go_at_call 52;refine (leaf_mk 0 2 ⟨#[0]⟩ _).mono ?_;rintro _ wc ⟨vq,rfl,tq,hq⟩;obtain ⟨A6,Q6,eq,-,-⟩:=tq.slice;replace eq:vq = .slice A6 1 Q6:=eq;subst eq;replace HB:=lH (HB.out.step hq);have T1:=lH tq;clear tq hq;refine hK.out _ _ ⟨HB,HKK.out.at_ HB.out⟩ (fun hHeld => ?_);clear hK K;try simp only [RegW.p]
   refine RegW.only (i:=3) rfl (by kernel_rfl) (fun K hK => ?_);go_simp;go_at_call 52;refine (leaf_mk 0 6 nm _).mono ?_;rintro _ wd ⟨vq,rfl,tq,hq⟩;obtain ⟨A7,Q7,eq,-,-⟩:=tq.slice;replace eq:vq = .slice A7 1 Q7:=eq;subst eq;replace HB:=lH (HB.out.step hq);have T3:=lH tq;replace T1:=lH (T1.out.since hq);clear tq hq;refine hK.out _ _ ⟨HB,HKK.out.at_ HB.out⟩ (fun hHeld => ?_);clear hK K;try simp only [RegW.p]
   refine RegW.only (i:=5) rfl (by kernel_rfl) (fun K hK => ?_);go_simp;have hq:=(Since.refl wd).alloc (.cells #[.slice A7 1 Q7,.slice AP 1 QP] 75);have T5:=lH (trees_lit wd [.slice A7 1 Q7,.slice AP 1 QP] ([F.prim 0 6 nm .nil,F.prim 0 pt pb .nil].map (fun g => g.flat 0)) rfl (by show 2 <= 1000; omega) (fun j x N hx hN => by
     have hj:j < 2:=by have:=(List.getElem?_eq_some_iff.1 hx).1; simpa using this
     match j,hj with
     | 0,_ => cases hx; cases hN; exact T3.out
     | 1,_ => cases hx; cases hN; exact TP.out.since HB.out) #[.slice A7 1 Q7,.slice AP 1 QP] rfl 75)
   replace HB:=lH (HB.out.step hq);replace T1:=lH (T1.out.since hq);clear hq T3;refine hK.out _ _ ⟨HB,HKK.out.at_ HB.out⟩ (fun hHeld => ?_);clear hK K;try simp only [RegW.p]
   refine RegW.only (i:=6) rfl (by kernel_rfl) (fun K hK => ?_);go_simp;go_at_call 54;refine (of_g 0 16 [F.prim 0 6 nm .nil,F.prim 0 pt pb .nil] (fun g hg => by
     simp only [List.mem_cons,List.not_mem_nil,or_false] at hg;rcases hg with rfl | rfl <;> exact rfl) (by show 2 <= 1000; omega) (by show 1 + (1 + 0) <= 1000; omega) _ _ T5.out).mono ?_
   rintro _ wf ⟨vq,rfl,tq,hq⟩;obtain ⟨A8,Q8,eq,-,-⟩:=tq.slice;replace eq:vq = .slice A8 3 Q8:=eq;subst eq;replace HB:=lH (HB.out.step hq);replace T1:=lH (T1.out.since hq);have T6:=lH (show TreeS wf (.slice A8 3 Q8) ((algF nm pt pb).flat 0) from tq);clear tq hq T5;refine hK.out _ _ ⟨HB,HKK.out.at_ HB.out⟩ (fun hHeld => ?_);clear hK K;try simp only [RegW.p]
   refine RegW.only (i:=9) rfl (by kernel_rfl) (fun K hK => ?_);go_simp;go_at_call 52;refine (leaf_mk 0 4 key _).mono ?_;rintro _ wg ⟨vq,rfl,tq,hq⟩;obtain ⟨A9,Q9,eq,-,-⟩:=tq.slice;replace eq:vq = .slice A9 1 Q9:=eq;subst eq;replace HB:=lH (HB.out.step hq);have T9:=lH tq;replace T1:=lH (T1.out.since hq);replace T6:=lH (T6.out.since hq);clear tq hq;refine hK.out _ _ ⟨HB,HKK.out.at_ HB.out⟩ (fun hHeld => ?_);clear hK K;try simp only [RegW.p]
   refine RegW.only (i:=11) rfl (by kernel_rfl) (fun K hK => ?_);go_simp;have hq:=(Since.refl wg).alloc (.cells #[.slice A6 1 Q6,.slice A8 3 Q8,.slice A9 1 Q9,.slice A5 n5 q5] 75);have T11:=lH (trees_lit wg [.slice A6 1 Q6,.slice A8 3 Q8,.slice A9 1 Q9,.slice A5 n5 q5] [[⟨0,2,false,⟨#[0]⟩,[]⟩],(algF nm pt pb).flat 0,[⟨0,4,false,key,[]⟩],(atsF gs).flat 0] rfl (by show 4 <= 1000; omega) (fun j x N hx hN => by
     have hj:j < 4:=by have:=(List.getElem?_eq_some_iff.1 hx).1; simpa using this
     match j,hj with
     | 0,_ => cases hx; cases hN; exact T1.out
     | 1,_ => cases hx; cases hN; exact T6.out
     | 2,_ => cases hx; cases hN; exact T9.out
     | 3,_ => cases hx; cases hN; exact TA.out.since HB.out) #[.slice A6 1 Q6,.slice A8 3 Q8,.slice A9 1 Q9,.slice A5 n5 q5] rfl 75)
   replace HB:=lH (HB.out.step hq);clear hq T1 T6 T9;refine hK.out _ _ ⟨HB,HKK.out.at_ HB.out⟩ (fun hHeld => ?_);clear hK K;try simp only [RegW.p]
   refine RegW.only (i:=12) rfl (by kernel_rfl) (fun K hK => ?_);go_simp;go_at_call 54;refine (of_pk nm pt pb key gs hc _ _ T11.out).mono ?_;rintro _ wh ⟨vq,rfl,tq,hq⟩;obtain ⟨A10,Q10,eq,-,-⟩:=tq.slice;obtain ⟨nt,hnt⟩:∃ n,n = (pkN nm pt pb key gs).length:=⟨_,rfl⟩
   rw [<- hnt] at eq;subst eq;replace HB:=lH (HB.out.step hq);have T12:=lH tq;clear tq hq T11 hnt;refine hK.out _ _ ⟨HB,HKK.out.at_ HB.out⟩ (fun hHeld => ?_);clear hK K;try simp only [RegW.p]
   refine RegW.only (i:=13) rfl (by kernel_rfl) (fun K hK => ?_);go_simp;go_at_call 53;refine c5.calls0 T12.out ?_;intro wi hq;replace HB:=lH (HB.out.step hq);clear hq T12;refine hK.out _ _ ⟨HB,HKK.out.at_ HB.out⟩ (fun hHeld => ?_);clear hK K;try simp only [RegW.p]
   refine RegW.tk 14 rfl ?_;try simp only [RegW.p]
   refine RegW.tk 15 rfl ?_;try simp only [RegW.p]
   refine RegW.tk 16 rfl ?_;try simp only [RegW.p]
   refine RegW.last rfl (by kernel_rfl) (by kernel_rfl) ?_;clear hHeld;go_wp2_with fail;go_ret2;exact ⟨rfl,HS.out.step HB.out⟩
end Pk
end Go.Proofs.YtpanhhjkecebkaaGreat
