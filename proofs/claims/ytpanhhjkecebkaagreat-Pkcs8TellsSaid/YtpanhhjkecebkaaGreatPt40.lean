import Derived.Test.YtpanhhjkecebkaaGreatPt39
import Derived.Test.YtpanhhjkecebkaaGreatPt24
import Derived.Test.YtpanhhjkecebkaaGreatPt19
set_option maxRecDepth 100000
namespace Go.Proofs.YtpanhhjkecebkaaGreat
open Go.RowKit
namespace Tree
open Tlv Strs
def behI:Option Nat -> Int
 | none => -1
 | some e => (e:Int)
structure Small (N:List Nd):Prop where
 len:N.length <= 100000
 data:∀ x ∈ N,x.d.size <= 100000
theorem beh_le {R:Int -> ByteArray -> Bool} {N:List Nd} {f i e:Nat} (h:behB R N f i = some e):i < e /\ e <= N.length:=by
 rw [beh_kids] at h;obtain ⟨g,g1,g2,g3,g4,g5⟩:=of_kids R N _ _ _ _ h;have hs:=tops_single g3;have hp:0 < g.cnt:=by
   cases g with
   | nil => exact absurd hs (by intro h; exact h)
   | prim _ _ _ _ => show 0 < 1 + _; omega
   | cons _ _ _ _ => show 0 < 1 + _ + _; omega
 have h9:=g2 (g.cnt - 1) _ (List.getElem?_eq_getElem (by rw [F.flat_len]; omega));have:=(List.getElem?_eq_some_iff.1 h9).1;omega
def BehR (F:Nat) (N:List Nd) (f:Nat):Prop:=∀ (w:World) (v:Value) (i:Nat) (D:Int),TreeS w v N -> i <= N.length -> D + (f:Int) = 17 -> Calls Tryz.prog F #[v,.int .i64 (i:Int),.int .i64 D] w fun e w' => e = .returned (.int .i64 (behI (behB rightB N f i))) /\ Since w w'
theorem behB_zero (R:Int -> ByteArray -> Bool) (N:List Nd) (i:Nat):behB R N 0 i = none:=rfl
theorem behB_far (R:Int -> ByteArray -> Bool) (N:List Nd) (f i:Nat) (h:N.length <= i):behB R N f i = none:=by
 cases f with
 | zero => rfl
 | succ f => unfold behB; rw [List.getElem?_eq_none h]
theorem behB_at (R:Int -> ByteArray -> Bool) (N:List Nd) (f i:Nat) (x:Nd) (h:N[i]? = some x):behB R N (f + 1) i = if oneB R x then kidsB (behB R N f) x.k (i + 1) else none:=by
 conv => lhs; unfold behB
 rw [h]
theorem kids_step (b:Nat -> Option Nat) (l:List Int) (j nx:Nat) (hj:j < l.length) (a:Int) (ha:l[j]? = some a):kidsB b (l.drop j) nx = if a = (nx:Int) then (match b nx with | none => none | some e => kidsB b (l.drop (j + 1)) e) else none:=by
 have e:l[j] = a:=by rw [List.getElem?_eq_getElem hj] at ha; exact Option.some.inj ha
 rw [List.drop_eq_getElem_cons hj,e];rfl
theorem treeform {w:World} {v:Value} {N:List Nd} (h:TreeS w v N) (hn:0 < N.length) :
   ∃ b o c,v = .slice (some ⟨b,o,none⟩) N.length c /\ N.length <= c /\ c <= maxLen /\ b < w.heap.size /\ ∀ (i:Nat) x,N[i]? = some x -> ∃ A q,w.cell? ⟨b,o + i * 5,none⟩ = some (.int .i64 x.c) /\ w.cell? ⟨b,o + i * 5 + 1,none⟩ = some (.int .i64 x.t) /\ w.cell? ⟨b,o + i * 5 + 2,none⟩ = some (.bool x.b) /\ w.cell? ⟨b,o + i * 5 + 3,none⟩ = some (.string x.d) /\ w.cell? ⟨b,o + i * 5 + 4,none⟩ = some (.slice A x.k.length q) /\ IntsS w (.slice A x.k.length q) x.k:=by
 obtain ⟨b,o,c,hv,h1,h2,h3,h4⟩:=h.form hn;refine ⟨b,o,c,hv,h1,h2,h3,fun i x hx => ?_⟩;obtain ⟨kv,k0,k1,k2,k3,k4,k5⟩:=h4 i x hx;obtain ⟨A,q,rfl,-,-⟩:=k5.slice;exact ⟨A,q,k0,k1,k2,k3,k4,k5⟩
set_option maxHeartbeats 2000000 in
theorem end_far (N:List Nd) (_hs:Small N) (_f:Nat) (w:World) (v:Value) (i:Nat) (D:Int) (h:TreeS w v N) (hi:N.length <= i):Calls Tryz.prog 133 #[v,.int .i64 (i:Int),.int .i64 D] w fun e w' => e = .returned (.int .i64 (-1)) /\ Since w w':=by
 have HS:=lH (Since.refl w);obtain ⟨A,q,rfl,-,-⟩:=h.slice;have t1:decide (N.length <= i) = true:=decide_eq_true hi;have t2:decide ((N.length:Int) <= (i:Int)) = true:=decide_eq_true (by omega);clear h hi
 go_enter Tryz.func133,Tryz.ntmps133
 go_wp2_with fail;go_ret;exact ⟨rfl,HS.out⟩
set_option maxHeartbeats 2000000 in
theorem end_deep (N:List Nd) (w:World) (v:Value) (i:Nat) (D:Int) (h:TreeS w v N) (hi:i < N.length) (hD:16 < D):Calls Tryz.prog 133 #[v,.int .i64 (i:Int),.int .i64 D] w fun e w' => e = .returned (.int .i64 (-1)) /\ Since w w':=by
 have HS:=lH (Since.refl w);obtain ⟨A,q,rfl,-,-⟩:=h.slice;have t1:decide (N.length <= i) = false:=decide_eq_false (by omega);have t2:decide ((N.length:Int) <= (i:Int)) = false:=decide_eq_false (by omega);have t3:decide (16 < D) = true:=decide_eq_true hD;clear h hi hD
 go_enter Tryz.func133,Tryz.ntmps133
 go_wp2_with fail;go_ret;exact ⟨rfl,HS.out⟩
set_option maxHeartbeats 2000000 in
theorem end_no (N:List Nd) (hs:N.length <= 100000) (f:Nat) (hf:f <= 16) (w:World) (v:Value) (i:Nat) (D:Int) (h:TreeS w v N) (x:Nd) (hx:N[i]? = some x) (hD:D + ((f + 1:Nat):Int) = 17) (c1:∀ A q,Mak 162 #[nv x.c x.t x.b x.d (.slice A x.k.length q)] (.bool false)):Calls Tryz.prog 133 #[v,.int .i64 (i:Int),.int .i64 D] w fun e w' => e = .returned (.int .i64 (-1)) /\ Since w w':=by
 have HS:=lH (Since.refl w);have hi:i < N.length:=(List.getElem?_eq_some_iff.1 hx).1;obtain ⟨b,o,c,rfl,-,-,b1,b2⟩:=treeform h (by omega);obtain ⟨A,q,m0,m1,m2,m3,m4,m5⟩:=b2 i x hx;have H4:=lH m4;have H5:=lH m5;have HT:=lH h;have B1:=lH b1;have t1:decide (N.length <= i) = false:=decide_eq_false (by omega);have t2:decide ((N.length:Int) <= (i:Int)) = false:=decide_eq_false (by omega);have t3:decide (16 < D) = false:=decide_eq_false (by omega);have i1:(i:Int) < (N.length:Int):=by omega
 have i2:(0:Int) <= (i:Int):=by omega
 have hX:=lH hx;have HD:=lH hD;have D1:0 <= D /\ D <= 16:=by omega
 clear m5 b2 h hx hD b1
 go_enter Tryz.func133,Tryz.ntmps133
 go_wp2_with fail;refine (c1 A q).calls0 ?_;intro w1 h1;replace HS:=lH (HS.out.step h1);clear h1 m0 m1 m2 m3 m4;go_wp2_with fail;go_ret;exact ⟨rfl,HS.out⟩
set_option maxHeartbeats 4000000 in
theorem end_yes (N:List Nd) (hs:N.length <= 100000) (f:Nat) (hf:f <= 16) (IH:BehR 133 N f) (w:World) (v:Value) (i:Nat) (D:Int) (h:TreeS w v N) (x:Nd) (hx:N[i]? = some x) (hD:D + ((f + 1:Nat):Int) = 17) (c1:∀ A q,Mak 162 #[nv x.c x.t x.b x.d (.slice A x.k.length q)] (.bool true)) (T:Option Nat) (hT:kidsB (behB rightB N f) x.k (i + 1) = T):Calls Tryz.prog 133 #[v,.int .i64 (i:Int),.int .i64 D] w fun e w' => e = .returned (.int .i64 (behI T)) /\ Since w w':=by
 have HTT:=lH hT;clear hT;have HS:=lH (Since.refl w);have hi:i < N.length:=(List.getElem?_eq_some_iff.1 hx).1;obtain ⟨b,o,c,rfl,-,-,b1,b2⟩:=treeform h (by omega);obtain ⟨A,q,m0,m1,m2,m3,m4,m5⟩:=b2 i x hx;have H4:=lH m4;have H5:=lH m5;have HT:=lH h;have B1:=lH b1;have t1:decide (N.length <= i) = false:=decide_eq_false (by omega);have t2:decide ((N.length:Int) <= (i:Int)) = false:=decide_eq_false (by omega);have t3:decide (16 < D) = false:=decide_eq_false (by omega);have i1:(i:Int) < (N.length:Int):=by omega
 have i2:(0:Int) <= (i:Int):=by omega
 have hX:=lH hx;have HD:=lH hD;have D1:0 <= D /\ D <= 16:=by omega
 clear m5 b2 h hx hD b1
 go_enter Tryz.func133,Tryz.ntmps133
 go_wp2_with fail;refine (c1 A q).calls0 ?_;intro w1 h1;replace HS:=lH (HS.out.step h1);clear h1 m0 m1 m2 m3 m4;have m4:=(Below.cell HS.out (p:=⟨b,o + i * 5 + 4,none⟩) B1.out).trans H4.out;have hkl:=IntsS.le H5.out;go_wp2_with fail;clear m4;go_loopw [7,34] (fun n j wr => ∃ a nx:Nat,j = .int .i64 (a:Int) /\ n = .int .i64 (nx:Int) /\ a <= x.k.length /\ nx <= N.length /\ Hid (kidsB (behB rightB N f) (x.k.drop a) nx = T) /\ Hid (Since w wr)) (fun _ j _ => x.k.length - (intOf j).toNat)
 case atStart => exact ⟨0,i + 1,rfl,by go_num,Nat.zero_le _,by omega,lH (by rw [List.drop_zero]; exact HTT.out),HS⟩
 case round =>
   clear HS HTT;obtain ⟨a,nx,rfl,rfl,ha,hn,HTT,HS⟩:=hrel
   by_cases hlt:a < x.k.length
   · obtain ⟨bk,ok,dk,hv,-,-,l3,l4⟩:=H5.out.form (by omega);obtain ⟨rfl,-,rfl⟩:=Value.slice.inj hv;obtain ⟨y,hy⟩:∃ y,x.k[a]? = some y:=⟨_,List.getElem?_eq_getElem hlt⟩
     have c9:=(Below.cell HS.out (p:=⟨bk,ok + a,none⟩) l3).trans (l4 a hlt);rw [show x.k.getD a 0 = y by simp [List.getD,hy]] at c9;have hT:=HTT.out;rw [kids_step _ _ _ _ hlt y hy] at hT;clear hv
     by_cases he:y = (nx:Int)
     · subst he;rw [if_pos rfl] at hT;have n1:((nx:Int) != (nx:Int)) = false:=bne_self_eq_false _;have HTS:=lH (HT.out.since HS.out);have cI:=IH wr _ nx (D + 1) HTS.out hn (by have:=HD.out; omega);cases hb:behB rightB N f nx with
       | none =>
         rw [hb] at cI hT;dsimp only [behI] at cI hT;subst hT;clear hb hy l4;go_wp2_with fail;refine cI.mono ?_;rintro _ w2 ⟨rfl,h2⟩;replace HS:=lH (HS.out.step h2);clear h2 cI c9;go_wp2_with fail;go_ret;exact ⟨rfl,HS.out⟩
       | some e =>
         rw [hb] at cI hT;dsimp only [behI] at cI hT;have hle:=(beh_le hb).2;have n2:decide ((e:Int) < 0) = false:=decide_eq_false (by omega);have HT2:=lH hT;clear hb hy l4 hT;go_wp2_with fail;refine cI.mono ?_;rintro _ w2 ⟨rfl,h2⟩;replace HS:=lH (HS.out.step h2);clear h2 cI c9;go_wp2_with fail;go_roundw
         case rel => exact ⟨a + 1,e,by go_num,rfl,by omega,hle,HT2,HS⟩
         case measure => simp [intOf]; omega
     · rw [if_neg he] at hT;subst hT;have n1:(y != (nx:Int)) = true:=by rw [bne_iff_ne]; exact he
       clear hy l4;go_wp2_with fail;go_ret;exact ⟨rfl,HS.out⟩
   · obtain rfl:a = x.k.length:=by omega
     have hT:=HTT.out;rw [List.drop_length] at hT;subst hT;go_wp2_with fail;go_ret;exact ⟨rfl,HS.out⟩
set_option maxHeartbeats 2000000 in
theorem beh_far (N:List Nd) (_hs:Small N) (_f:Nat) (w:World) (v:Value) (i:Nat) (D:Int) (h:TreeS w v N) (hi:N.length <= i):Calls Tryz.prog 112 #[v,.int .i64 (i:Int),.int .i64 D] w fun e w' => e = .returned (.int .i64 (-1)) /\ Since w w':=by
 have HS:=lH (Since.refl w);obtain ⟨A,q,rfl,-,-⟩:=h.slice;have t1:decide (N.length <= i) = true:=decide_eq_true hi;have t2:decide ((N.length:Int) <= (i:Int)) = true:=decide_eq_true (by omega);clear h hi
 go_enter Tryz.func112,Tryz.ntmps112
 go_wp2_with fail;go_ret;exact ⟨rfl,HS.out⟩
set_option maxHeartbeats 2000000 in
theorem beh_deep (N:List Nd) (w:World) (v:Value) (i:Nat) (D:Int) (h:TreeS w v N) (hi:i < N.length) (hD:16 < D):Calls Tryz.prog 112 #[v,.int .i64 (i:Int),.int .i64 D] w fun e w' => e = .returned (.int .i64 (-1)) /\ Since w w':=by
 have HS:=lH (Since.refl w);obtain ⟨A,q,rfl,-,-⟩:=h.slice;have t1:decide (N.length <= i) = false:=decide_eq_false (by omega);have t2:decide ((N.length:Int) <= (i:Int)) = false:=decide_eq_false (by omega);have t3:decide (16 < D) = true:=decide_eq_true hD;clear h hi hD
 go_enter Tryz.func112,Tryz.ntmps112
 go_wp2_with fail;go_ret;exact ⟨rfl,HS.out⟩
set_option maxHeartbeats 2000000 in
theorem beh_no (N:List Nd) (hs:N.length <= 100000) (f:Nat) (hf:f <= 16) (w:World) (v:Value) (i:Nat) (D:Int) (h:TreeS w v N) (x:Nd) (hx:N[i]? = some x) (hD:D + ((f + 1:Nat):Int) = 17) (c1:∀ A q,Mak 140 #[nv x.c x.t x.b x.d (.slice A x.k.length q)] (.bool false)):Calls Tryz.prog 112 #[v,.int .i64 (i:Int),.int .i64 D] w fun e w' => e = .returned (.int .i64 (-1)) /\ Since w w':=by
 have HS:=lH (Since.refl w);have hi:i < N.length:=(List.getElem?_eq_some_iff.1 hx).1;obtain ⟨b,o,c,rfl,-,-,b1,b2⟩:=treeform h (by omega);obtain ⟨A,q,m0,m1,m2,m3,m4,m5⟩:=b2 i x hx;have H4:=lH m4;have H5:=lH m5;have HT:=lH h;have B1:=lH b1;have t1:decide (N.length <= i) = false:=decide_eq_false (by omega);have t2:decide ((N.length:Int) <= (i:Int)) = false:=decide_eq_false (by omega);have t3:decide (16 < D) = false:=decide_eq_false (by omega);have i1:(i:Int) < (N.length:Int):=by omega
 have i2:(0:Int) <= (i:Int):=by omega
 have hX:=lH hx;have HD:=lH hD;have D1:0 <= D /\ D <= 16:=by omega
 clear m5 b2 h hx hD b1
 go_enter Tryz.func112,Tryz.ntmps112
 go_wp2_with fail;refine (c1 A q).calls0 ?_;intro w1 h1;replace HS:=lH (HS.out.step h1);clear h1 m0 m1 m2 m3 m4;go_wp2_with fail;go_ret;exact ⟨rfl,HS.out⟩
set_option maxHeartbeats 4000000 in
theorem beh_yes (N:List Nd) (hs:N.length <= 100000) (f:Nat) (hf:f <= 16) (IH:BehR 112 N f) (w:World) (v:Value) (i:Nat) (D:Int) (h:TreeS w v N) (x:Nd) (hx:N[i]? = some x) (hD:D + ((f + 1:Nat):Int) = 17) (c1:∀ A q,Mak 140 #[nv x.c x.t x.b x.d (.slice A x.k.length q)] (.bool true)) (T:Option Nat) (hT:kidsB (behB rightB N f) x.k (i + 1) = T):Calls Tryz.prog 112 #[v,.int .i64 (i:Int),.int .i64 D] w fun e w' => e = .returned (.int .i64 (behI T)) /\ Since w w':=by
 have HTT:=lH hT;clear hT;have HS:=lH (Since.refl w);have hi:i < N.length:=(List.getElem?_eq_some_iff.1 hx).1;obtain ⟨b,o,c,rfl,-,-,b1,b2⟩:=treeform h (by omega);obtain ⟨A,q,m0,m1,m2,m3,m4,m5⟩:=b2 i x hx;have H4:=lH m4;have H5:=lH m5;have HT:=lH h;have B1:=lH b1;have t1:decide (N.length <= i) = false:=decide_eq_false (by omega);have t2:decide ((N.length:Int) <= (i:Int)) = false:=decide_eq_false (by omega);have t3:decide (16 < D) = false:=decide_eq_false (by omega);have i1:(i:Int) < (N.length:Int):=by omega
 have i2:(0:Int) <= (i:Int):=by omega
 have hX:=lH hx;have HD:=lH hD;have D1:0 <= D /\ D <= 16:=by omega
 clear m5 b2 h hx hD b1
 go_enter Tryz.func112,Tryz.ntmps112
 go_wp2_with fail;refine (c1 A q).calls0 ?_;intro w1 h1;replace HS:=lH (HS.out.step h1);clear h1 m0 m1 m2 m3 m4;have hkl:=IntsS.le H5.out;go_wp2_with fail;go_loopw [7,8] (fun n j wr => ∃ a nx:Nat,j = .int .i64 (a:Int) /\ n = .int .i64 (nx:Int) /\ a <= x.k.length /\ nx <= N.length /\ Hid (kidsB (behB rightB N f) (x.k.drop a) nx = T) /\ Hid (Since w wr)) (fun _ j _ => x.k.length - (intOf j).toNat)
 case atStart => exact ⟨0,i + 1,rfl,by go_num,Nat.zero_le _,by omega,lH (by rw [List.drop_zero]; exact HTT.out),HS⟩
 case round =>
   clear HS HTT;obtain ⟨a,nx,rfl,rfl,ha,hn,HTT,HS⟩:=hrel;have m4:=(Below.cell HS.out (p:=⟨b,o + i * 5 + 4,none⟩) B1.out).trans H4.out
   by_cases hlt:a < x.k.length
   · obtain ⟨bk,ok,dk,hv,-,-,l3,l4⟩:=H5.out.form (by omega);obtain ⟨rfl,-,rfl⟩:=Value.slice.inj hv;obtain ⟨y,hy⟩:∃ y,x.k[a]? = some y:=⟨_,List.getElem?_eq_getElem hlt⟩
     have c9:=(Below.cell HS.out (p:=⟨bk,ok + a,none⟩) l3).trans (l4 a hlt);rw [show x.k.getD a 0 = y by simp [List.getD,hy]] at c9;have hT:=HTT.out;rw [kids_step _ _ _ _ hlt y hy] at hT;clear hv
     by_cases he:y = (nx:Int)
     · subst he;rw [if_pos rfl] at hT;have n1:((nx:Int) != (nx:Int)) = false:=bne_self_eq_false _;have HTS:=lH (HT.out.since HS.out);have cI:=IH wr _ nx (D + 1) HTS.out hn (by have:=HD.out; omega);cases hb:behB rightB N f nx with
       | none =>
         rw [hb] at cI hT;dsimp only [behI] at cI hT;subst hT;clear hb hy l4;go_wp2_with fail;refine cI.mono ?_;rintro _ w2 ⟨rfl,h2⟩;replace HS:=lH (HS.out.step h2);clear h2 cI c9 m4;go_wp2_with fail;go_ret;exact ⟨rfl,HS.out⟩
       | some e =>
         rw [hb] at cI hT;dsimp only [behI] at cI hT;have hle:=(beh_le hb).2;have n2:decide ((e:Int) < 0) = false:=decide_eq_false (by omega);have HT2:=lH hT;clear hb hy l4 hT;go_wp2_with fail;refine cI.mono ?_;rintro _ w2 ⟨rfl,h2⟩;replace HS:=lH (HS.out.step h2);clear h2 cI c9 m4;go_wp2_with fail;go_roundw
         case rel => exact ⟨a + 1,e,by go_num,rfl,by omega,hle,HT2,HS⟩
         case measure => simp [intOf]; omega
     · rw [if_neg he] at hT;subst hT;have n1:(y != (nx:Int)) = true:=by rw [bne_iff_ne]; exact he
       clear hy l4;go_wp2_with fail;go_ret;exact ⟨rfl,HS.out⟩
   · obtain rfl:a = x.k.length:=by omega
     have hT:=HTT.out;rw [List.drop_length] at hT;subst hT;go_wp2_with fail;go_ret;exact ⟨rfl,HS.out⟩
theorem end_r (N:List Nd) (hs:Small N) (f:Nat) (hf:f <= 16):BehR 133 N f:=by
 induction f with
 | zero =>
   intro w v i D h hi hD;rw [behB_zero]
   by_cases hl:i < N.length
   · exact end_deep N w v i D h hl (by omega)
   · exact end_far N hs 0 w v i D h (by omega)
 | succ f ih =>
   intro w v i D h hi hD
   by_cases hl:i < N.length
   · have hx:=List.getElem?_eq_getElem hl;have hd:=hs.data _ (List.getElem_mem hl);rw [behB_at rightB N f i _ hx];have c1:=fun A q => pr_mak N[i] A q (right_mak _ _ (by omega))
     cases ho:oneB rightB N[i] with
     | false =>
       rw [ho] at c1;rw [if_neg (by decide)];exact end_no N hs.len f (by omega) w v i D h _ hx hD c1
     | true =>
       rw [ho] at c1;rw [if_pos rfl];exact end_yes N hs.len f (by omega) (ih (by omega)) w v i D h _ hx hD c1 _ rfl
   · rw [behB_far _ _ _ _ (by omega)];exact end_far N hs (f + 1) w v i D h (by omega)
theorem beh_r (N:List Nd) (hs:Small N) (f:Nat) (hf:f <= 16):BehR 112 N f:=by
 induction f with
 | zero =>
   intro w v i D h hi hD;rw [behB_zero]
   by_cases hl:i < N.length
   · exact beh_deep N w v i D h hl (by omega)
   · exact beh_far N hs 0 w v i D h (by omega)
 | succ f ih =>
   intro w v i D h hi hD
   by_cases hl:i < N.length
   · have hx:=List.getElem?_eq_getElem hl;have hd:=hs.data _ (List.getElem_mem hl);rw [behB_at rightB N f i _ hx];have c1:=fun A q => on_mak N[i] A q (rright_mak _ _ (by omega))
     cases ho:oneB rightB N[i] with
     | false =>
       rw [ho] at c1;rw [if_neg (by decide)];exact beh_no N hs.len f (by omega) w v i D h _ hx hD c1
     | true =>
       rw [ho] at c1;rw [if_pos rfl];exact beh_yes N hs.len f (by omega) (ih (by omega)) w v i D h _ hx hD c1 _ rfl
   · rw [behB_far _ _ _ _ (by omega)];exact beh_far N hs (f + 1) w v i D h (by omega)
def RdT (F:Nat) (N:List Nd) (args:Value -> Array Value) (r:Value):Prop:=∀ w v,TreeS w v N -> Calls Tryz.prog F (args v) w fun e w' => e = .returned r /\ Since w w'
theorem RdT.calls0 {F:Nat} {N:List Nd} {args:Value -> Array Value} {r v:Value} (h:RdT F N args r) {w:World} (hv:TreeS w v N) {R:Ending -> World -> Prop} (k:∀ w',Since w w' -> R (.returned r) w'):Calls Tryz.prog F (args v) w R :=
 (h w v hv).mono fun _ _ ⟨he,hb⟩ => by subst he; exact k _ hb
set_option maxHeartbeats 2000000 in
theorem rig_core (N:List Nd) (_hs:N.length <= 100000) (q1 q2 q3:Bool) (t1:decide (0 < (N.length:Int)) = q1) (t1':decide (0 < N.length) = q1) (t2:decide ((N.length:Int) <= 1000) = q2) (E:Int) (hE:(E == (N.length:Int)) = q3) (c1:RdT 133 N (fun v => #[v,.int .i64 0,.int .i64 1]) (.int .i64 E)):RdT 96 N (fun v => #[v]) (.bool (q1 && q2 && q3)):=by
 intro w v h;have HS:=lH (Since.refl w);have HT:=lH h;obtain ⟨A,q,rfl,-,-⟩:=h.slice;clear h;cases q1
 · go_enter Tryz.func96,Tryz.ntmps96
   go_wp2_with fail;go_ret;exact ⟨rfl,HS.out⟩
 · cases q2
   · go_enter Tryz.func96,Tryz.ntmps96
     go_wp2_with fail;go_ret;exact ⟨rfl,HS.out⟩
   · go_enter Tryz.func96,Tryz.ntmps96
     go_wp2_with fail;refine c1.calls0 HT.out ?_;intro w1 h1;replace HS:=lH (HS.out.step h1);clear h1;go_wp2_with fail;go_ret;cases q3 <;> exact ⟨rfl,HS.out⟩
theorem rig_rd (N:List Nd) (hs:Small N):RdT 96 N (fun v => #[v]) (.bool (rigB rightB N)):=by
 have c1:RdT 133 N (fun v => #[v,.int .i64 0,.int .i64 1]) (.int .i64 (behI (behB rightB N 16 0))):=fun w v h => end_r N hs 16 (Nat.le_refl _) w v 0 1 h (Nat.zero_le _) rfl
 have h:=rig_core N hs.len (decide (0 < N.length)) (decide (N.length <= 1000)) (decide (behB rightB N 16 0 = some N.length)) (by rw [Bool.eq_iff_iff,decide_eq_true_iff,decide_eq_true_iff]; omega) rfl (by rw [Bool.eq_iff_iff,decide_eq_true_iff,decide_eq_true_iff]; omega) _ (by
   rw [Bool.eq_iff_iff,decide_eq_true_iff,beq_iff_eq];cases behB rightB N 16 0 with
   | none => exact ⟨fun h => by (have h:(-1:Int) = (N.length:Int):=h); omega,fun h => by cases h⟩
   | some e => exact ⟨fun h => by (have h:(e:Int) = (N.length:Int):=h); congr 1; omega,fun h => by rw [Option.some.inj h]; rfl⟩) c1
 exact h
set_option maxHeartbeats 2000000 in
theorem rrig_core (N:List Nd) (_hs:N.length <= 100000) (q1 q2 q3:Bool) (t1:decide (0 < (N.length:Int)) = q1) (t1':decide (0 < N.length) = q1) (t2:decide ((N.length:Int) <= 1000) = q2) (E:Int) (hE:(E == (N.length:Int)) = q3) (c1:RdT 112 N (fun v => #[v,.int .i64 0,.int .i64 1]) (.int .i64 E)):RdT 104 N (fun v => #[v]) (.bool (q1 && q2 && q3)):=by
 intro w v h;have HS:=lH (Since.refl w);have HT:=lH h;obtain ⟨A,q,rfl,-,-⟩:=h.slice;clear h;cases q1
 · go_enter Tryz.func104,Tryz.ntmps104
   go_wp2_with fail;go_ret;exact ⟨rfl,HS.out⟩
 · cases q2
   · go_enter Tryz.func104,Tryz.ntmps104
     go_wp2_with fail;go_ret;exact ⟨rfl,HS.out⟩
   · go_enter Tryz.func104,Tryz.ntmps104
     go_wp2_with fail;refine c1.calls0 HT.out ?_;intro w1 h1;replace HS:=lH (HS.out.step h1);clear h1;go_wp2_with fail;go_ret;cases q3 <;> exact ⟨rfl,HS.out⟩
theorem rrig_rd (N:List Nd) (hs:Small N):RdT 104 N (fun v => #[v]) (.bool (rigB rightB N)):=by
 have c1:RdT 112 N (fun v => #[v,.int .i64 0,.int .i64 1]) (.int .i64 (behI (behB rightB N 16 0))):=fun w v h => beh_r N hs 16 (Nat.le_refl _) w v 0 1 h (Nat.zero_le _) rfl
 have h:=rrig_core N hs.len (decide (0 < N.length)) (decide (N.length <= 1000)) (decide (behB rightB N 16 0 = some N.length)) (by rw [Bool.eq_iff_iff,decide_eq_true_iff,decide_eq_true_iff]; omega) rfl (by rw [Bool.eq_iff_iff,decide_eq_true_iff,decide_eq_true_iff]; omega) _ (by
   rw [Bool.eq_iff_iff,decide_eq_true_iff,beq_iff_eq];cases behB rightB N 16 0 with
   | none => exact ⟨fun h => by (have h:(-1:Int) = (N.length:Int):=h); omega,fun h => by cases h⟩
   | some e => exact ⟨fun h => by (have h:(e:Int) = (N.length:Int):=h); congr 1; omega,fun h => by rw [Option.some.inj h]; rfl⟩) c1
 exact h
end Tree
namespace Tree
open Tlv Strs
theorem below_cells {w:World} {g:Nat} (hg:w.heap.size <= g):∀ (vs:List Value) (o:Nat) (W:World),Since w W -> Since w (W.setCells g o vs)
 | [],_,_,h => h
 | v :: vs,o,_W,h => below_cells hg vs (o + 1) _ (Below.setCell (p:=⟨g,o,none⟩) h hg v)
theorem size_setCells (g:Nat):∀ (vs:List Value) (o:Nat) (W:World),(W.setCells g o vs).heap.size = W.heap.size
 | [],_,_ => rfl
 | v :: vs,o,W => by
   unfold World.setCells;rw [size_setCells g vs];simp
structure HO (w:World) (g n m:Nat) (hv:Nat -> Array Value) (W:World):Prop where
 since:Since w W
 low:w.heap.size <= g
 lt:g < W.heap.size
 th:W.there g 0 (n * 4)
 at_:∀ j,m <= j -> j < n -> W.rangeAt g (j * 4) (hv j).toList
section
variable {w:World} {g n m:Nat} {hv:Nat -> Array Value} {W W':World}
theorem there_since {g o n:Nat} (h:W.there g o n) (hg:g < W.heap.size) (hs:Since W W'):W'.there g o n:=fun j hj => by
 obtain ⟨a,b⟩:=h j hj;exact ⟨by rw [Below.cell hs (p:=⟨g,o + j,none⟩) hg]; exact a,by rw [Below.frozen hs (p:=⟨g,o + j,none⟩) hg]; exact b⟩
theorem range_since {g o:Nat} {cs:List Value} (h:W.rangeAt g o cs) (hg:g < W.heap.size) (hs:Since W W'):W'.rangeAt g o cs:=fun j v hv => (Below.cell hs (p:=⟨g,o + j,none⟩) hg).trans (h j v hv)
theorem hostep (hs:Since W W') (h:Hid (HO w g n m hv W)):Hid (HO w g n m hv W') :=
 lH ⟨h.out.since.step hs,h.out.low,Nat.lt_of_lt_of_le h.out.lt (Below.size hs),there_since h.out.th h.out.lt hs,fun j h1 h2 => range_since (h.out.at_ j h1 h2) h.out.lt hs⟩
theorem hodrew (h:Hid (HO w g n m hv W)):Hid (HO w g n m hv W.drew):=hostep (Since.drew (Since.refl _)) h
theorem ho_four {C T Ln:Int} {B:Bool} {q:Nat} (h:Hid (HO w g n m hv W)) (hm:m <= q) (hn:q < n) (hq:hv q = #[.int .i64 C,.int .i64 T,.bool B,.int .i64 Ln]) :
   Hid (HO w g n m hv W) /\ W.cell? ⟨g,q * 4,none⟩ = some (.int .i64 C) /\ W.cell? ⟨g,q * 4 + 1,none⟩ = some (.int .i64 T) /\ W.cell? ⟨g,q * 4 + 2,none⟩ = some (.bool B) /\ W.cell? ⟨g,q * 4 + 3,none⟩ = some (.int .i64 Ln):=by
 have h1:=h.out.at_ q hm hn;rw [hq] at h1;exact ⟨h,h1 0 _ rfl,h1 1 _ rfl,h1 2 _ rfl,h1 3 _ rfl⟩
theorem ho_put (h:Hid (HO w g n (m + 1) hv W)) (hm:m < n) (hl:(hv m).toList.length = 4) (_hl2:∀ j,(hv j).toList.length = 4):Hid (HO w g n m hv (W.setCells g (m * 4) (hv m).toList)):=by
 have ht:W.there g (m * 4) (hv m).toList.length:=fun j hj => by
   have:=h.out.th (m * 4 + j) (by omega);rw [Nat.zero_add] at this;exact this
 refine lH ⟨below_cells h.out.low _ _ _ h.out.since,h.out.low,by rw [size_setCells]; exact h.out.lt,World.there_setCells h.out.th _ _ _,fun j h1 h2 => ?_⟩
 by_cases hj:j = m
 · subst hj;exact World.rangeAt_setCells_same _ _ _ _ ht
 · exact World.rangeAt_setCells_apart (h.out.at_ j (by omega) h2) _ _ _ (.inr (.inr (by omega)))
end
def nd0:Nd:=⟨0,0,false,⟨#[]⟩,[]⟩
def hvF (N:List Nd) (Bs:List (List UInt8)) (j:Nat):Array Value:=#[.int .i64 (N.getD j nd0).c,.int .i64 (N.getD j nd0).t,.bool (N.getD j nd0).b,.int .i64 (((Bs.getD j []).length:Nat):Int)]
theorem hv_one (c t l:Int) (b:Bool):(#[Value.int .i64 c,.int .i64 t,.bool b,.int .i64 l]:Array Value).all (·.oneCell') = true:=by
 rw [Array.all_eq_true];intro i hi
 match i,hi with
 | 0,_ | 1,_ | 2,_ | 3,_ => rfl
theorem hinfo (c t l:Int) (b:Bool):(Tryz.prog.info? 115).map (·.size) = some (#[Value.int .i64 c,.int .i64 t,.bool b,.int .i64 l]:Array Value).size:=by kernel_rfl
theorem elsAt_snoc (N:List Nd) (Bs:List (List UInt8)) (l:List Int) (k:Nat) (a:Int) (h:l[k]? = some a):elsAt N Bs (l.take (k + 1)) = elsAt N Bs (l.take k) ++ elAt N Bs a.toNat:=by
 obtain ⟨h1,h2⟩:=List.getElem?_eq_some_iff.1 h;unfold elsAt;rw [List.take_succ_eq_append_getElem h1,List.flatMap_append,h2];simp
theorem elAt_len {N:List Nd} {Bs:List (List UInt8)} {a:Nat} {x:Nd} {b:List UInt8} (h1:N[a]? = some x) (h2:Bs[a]? = some b):(elAt N Bs a).length = (Head.encL x.c.toNat x.t.toNat x.b b.length).length + b.length:=by
 rw [elAt_eq h1 h2];unfold el;rw [List.length_append]
end Tree
namespace Tree
open Tlv Strs
theorem hd_make:∃ i:TypeInfo,Tryz.prog.info? 115 = some i /\ i.zero = some (.agg #[.int .i64 0,.int .i64 0,.bool false,.int .i64 0]) /\ i.size = 4 /\ i.bytes = 32:=by
 have h:(Tryz.prog.info? 115).map (fun i => (i.zero,i.size,i.bytes)) = some (some (.agg #[.int .i64 0,.int .i64 0,.bool false,.int .i64 0]),4,32):=by kernel_rfl
 cases hq:Tryz.prog.info? 115 with
 | none => rw [hq] at h; cases h
 | some i =>
   rw [hq] at h;have h2:=Option.some.inj h;exact ⟨i,rfl,congrArg Prod.fst h2,congrArg (fun p => p.2.1) h2,congrArg (fun p => p.2.2) h2⟩
theorem made_there (z:Array Value) (w:World) (n:Nat) (t:TypeId):(w.alloc (.cells (madeCells z n) t)).there w.heap.size 0 n:=fun j hj => by
 have hr:=heap_alloc_new w (.cells (madeCells z n) t);refine ⟨?_,frozen_of_row _ _ _ _ _ hr⟩;rw [Nat.zero_add];unfold World.cell?;rw [hr];have:j < (madeCells z n).size:=by rw [size_madeCells]; exact hj
 simp [this]
def HeadsP (w:World) (N:List Nd) (Bs:List (List UInt8)) (e:Ending) (w':World):Prop:=∃ g,e = .returned (.slice (some ⟨g,0,none⟩) N.length N.length) /\ Hid (HO w g N.length 0 (hvF N Bs) w')
set_option maxHeartbeats 8000000 in
theorem heads_mk (N:List Nd) (Bs:List (List UInt8)) (S:List UInt8) (hW:Wr N Bs S) (hS:S.length <= 65535) (hs:Small N) (hn1:N.length <= 1000) (hk:∀ x ∈ N,x.k.length <= 100000) (w:World) (v:Value) (hT:TreeS w v N):Calls Tryz.prog 97 #[v] w (HeadsP w N Bs):=by
 have hpos:=hW.pos;obtain ⟨b,o,c,rfl,-,-,b1,b2⟩:=treeform hT hpos;obtain ⟨n,hn⟩:∃ n,n = N.length:=⟨_,rfl⟩
 have HN:=lH hn;have hmk:∀ w:World,(Instr.makeSlice 131 (.int .i64 (N.length:Int)) (.int .i64 (N.length:Int))).run Tryz.prog w = .ok (.slice (some ⟨w.heap.size,0,none⟩) N.length N.length) (w.alloc (.cells (madeCells #[.int .i64 0,.int .i64 0,.bool false,.int .i64 0] (N.length * 4)) 115)):=fun w => by
   obtain ⟨i,h1,h2,h3,h4⟩:=hd_make;have h9:=run_make (P:=Tryz.prog) w 131 115 i _ Tryz.underlying131 h1 h2 .i64 .i64 (N.length:Int) (N.length:Int) (by omega) (by omega) (by rw [h4]; omega) (by omega);rw [h3,Int.toNat_natCast] at h9;exact h9
 have B1:=lH b1;have B2:=lH b2;have HWR:=lH hW;have HSL:=lH hs;have HK:=lH hk;have HSS:=lH hS;clear b1 b2 hT hW hs hk hS
 go_enter Tryz.func97,Tryz.ntmps97
 go_wp2_with fail;have hO:Hid (HO w w.heap.size N.length N.length (hvF N Bs) (w.alloc (.cells (madeCells #[.int .i64 0,.int .i64 0,.bool false,.int .i64 0] (N.length * 4)) 115))) :=
   lH ⟨(Since.refl w).alloc _,Nat.le_refl _,by simp,made_there _ _ _ _,fun j h1 h2 => by omega⟩
 go_loopw [4] (fun i wr => ∃ (m:Nat) (x:Int),i = .int .i64 x /\ Hid (x = (m:Int) - 1) /\ m <= N.length /\ Hid (HO w w.heap.size N.length m (hvF N Bs) wr)) (fun i _ => (intOf i + 1).toNat)
 case atStart => exact ⟨N.length,(N.length:Int) - 1,by go_num,lH rfl,Nat.le_refl _,hO⟩
 case round =>
   clear hO;obtain ⟨m,x,rfl,hx,hm,hO⟩:=hrel;cases m with
   | zero =>
     have hx2:x = -1:=by have:=hx.out; omega
     subst hx2;go_wp2_with fail;go_ret;exact ⟨_,rfl,hO⟩
   | succ j =>
     have hx2:x = (j:Int):=by have:=hx.out; omega
     subst hx2;clear hx;have hj:j < N.length:=by omega
     obtain ⟨y,hy⟩:∃ y,N[j]? = some y:=⟨_,List.getElem?_eq_getElem hj⟩
     obtain ⟨A,q,m0,m1,m2,m3,m4,m5⟩:=B2.out j y hy;have M0:=lH m0;have M1:=lH m1;have M2:=lH m2;have M3:=lH m3;have M4:=lH m4;have K5:=lH m5;have n3:=(Below.cell hO.out.since (p:=⟨b,o + j * 5 + 3,none⟩) B1.out).trans m3;have n4:=(Below.cell hO.out.since (p:=⟨b,o + j * 5 + 4,none⟩) B1.out).trans m4;have t1:decide ((0:Int) <= (j:Int)) = true:=decide_eq_true (by omega);have i1:(j:Int) < (N.length:Int):=by omega
     have i2:(0:Int) <= (j:Int):=by omega
     have hkl:=HK.out y (List.mem_iff_getElem?.2 ⟨j,hy⟩);have hdl:=HSL.out.data y (List.mem_iff_getElem?.2 ⟨j,hy⟩);have hle:=IntsS.le K5.out;obtain ⟨f1,f2⟩:=HWR.out.body j y hy;have F1:=lH f1;have F2:=lH f2;have HY:=lH hy;have HDL:=lH hdl;clear m0 m1 m2 m3 m4 m5 f1 f2 hy;go_wp2_with fail;clear n3 n4;go_loopw [5,30] (fun s i wr2 => ∃ (k sN:Nat),i = .int .i64 (k:Int) /\ s = .int .i64 (sN:Int) /\ k <= y.k.length /\ Hid (sN = y.d.size + (elsAt N Bs (y.k.take k)).length) /\ Hid (HO w w.heap.size N.length (j + 1) (hvF N Bs) wr2)) (fun _ i _ => y.k.length - (intOf i).toNat)
     case atStart => exact ⟨0,y.d.size,rfl,rfl,Nat.zero_le _,lH rfl,hO⟩
     case round =>
       clear hO;obtain ⟨k,sN,rfl,rfl,hk,hsn,hO⟩:=hrel
       by_cases hlt:k < y.k.length
       · obtain ⟨bk,ok,dk,hv,-,-,l3,l4⟩:=K5.out.form (by omega);obtain ⟨rfl,-,rfl⟩:=Value.slice.inj hv;clear hv;obtain ⟨a,ha⟩:∃ a,y.k[k]? = some a:=⟨_,List.getElem?_eq_getElem hlt⟩
         obtain ⟨r1,r2⟩:=F2.out a (List.mem_iff_getElem?.2 ⟨k,ha⟩);obtain ⟨qq,rfl⟩:∃ qq:Nat,a = (qq:Int):=⟨a.toNat,by omega⟩
         have c9:=(Below.cell hO.out.since (p:=⟨bk,ok + k,none⟩) l3).trans (l4 k hlt);have hqn:qq < N.length:=by omega
         obtain ⟨z,hz⟩:∃ z,N[qq]? = some z:=⟨_,List.getElem?_eq_getElem hqn⟩
         obtain ⟨C,T,hC,hT,C3,T3⟩:=HWR.out.nd z (List.mem_iff_getElem?.2 ⟨qq,hz⟩);obtain ⟨bz,hbz⟩:∃ bz,Bs[qq]? = some bz:=⟨_,(HWR.out.body qq z hz).1⟩
         obtain ⟨Ln,hLn⟩:∃ Ln,Ln = bz.length:=⟨_,rfl⟩
         obtain ⟨zb,hzb⟩:∃ zb,zb = z.b:=⟨_,rfl⟩
         have hL6:Ln <= 65535:=by rw [hLn]; exact Nat.le_trans (HWR.out.bnd bz (List.mem_iff_getElem?.2 ⟨qq,hbz⟩)) HSS.out
         obtain ⟨X,hX⟩:∃ X,X = bs (Head.encL C T zb Ln):=⟨_,rfl⟩
         have hX7:=(Head.encL_len C T zb Ln)
         have hXs:X.size = (Head.encL C T zb Ln).length:=by rw [hX,size_bs]
         have c5:=RefHead.psize (C:Int) (T:Int) (Ln:Int) zb X 0 (by omega) (Head.enc_ok C T Ln zb C3 T3 hL6 X hX);obtain ⟨Sz,hSz⟩:∃ Sz,Sz = X.size:=⟨_,rfl⟩
         rw [<- hSz] at c5;have hv:hvF N Bs qq = #[.int .i64 (C:Int),.int .i64 (T:Int),.bool zb,.int .i64 (Ln:Int)]:=by
           unfold hvF;rw [List.getD_eq_getElem?_getD,List.getD_eq_getElem?_getD,hz,hbz,Option.getD_some,Option.getD_some,hC,hT,hLn,hzb]
         have hel:(elsAt N Bs (y.k.take (k + 1))).length = (elsAt N Bs (y.k.take k)).length + (Sz + Ln):=by
           rw [elsAt_snoc N Bs y.k k _ ha,List.length_append,Int.toNat_natCast,elAt_len hz hbz,hC,hT,Int.toNat_natCast,Int.toNat_natCast,hSz,hXs,hLn,hzb]
         have HE:=lH hel;have hsb:sN + (Sz + Ln) <= 300000:=by
           have h1:=hsn.out;have h2:(elsAt N Bs (y.k.take (k + 1))).length <= (elsAt N Bs y.k).length:=by
             conv => rhs; rw [<- List.take_append_drop (k + 1) y.k]
             unfold elsAt;rw [List.flatMap_append,List.length_append];omega
           have h3:=HWR.out.bnd _ (List.mem_iff_getElem?.2 ⟨j,F1.out⟩);rw [List.length_append] at h3;have h4:=HSS.out;have h5:=HDL.out;omega
         rw [show y.k.getD k 0 = (qq:Int) by simp [List.getD,ha]] at c9;have x1:(qq:Int) < (N.length:Int):=by omega
         have x2:(0:Int) <= (qq:Int):=by omega
         have s1:Sz <= 300000:=by omega
         have s2:Ln <= 300000:=by omega
         have s3:sN <= 300000:=by omega
         have hw:IntKind.i64.wrap ((sN:Int) + IntKind.i64.wrap ((Sz:Int) + (Ln:Int))) = ((sN + (Sz + Ln):Nat):Int):=by
           rw [IntWalk.i64_in ((Sz:Int) + (Ln:Int)) (by omega),IntWalk.i64_in _ (by omega)];omega
         have HW:=lH hw;clear hw;clear ha hz hC hT hbz hLn hzb hX hXs hSz hel hX7 l4 C3 T3;have HV:=lH hv;have hjq:j + 1 <= qq:=by omega
         clear hv r1 r2;go_wp2_with fail;obtain ⟨_,z0,z1,z2,z3⟩:=ho_four hO hjq hqn HV.out
         go_region_held3 (fun W' => Hid (HO w w.heap.size N.length (j + 1) (hvF N Bs) W') /\ W'.cell? ⟨w.heap.size,qq * 4,none⟩ = some (.int .i64 (C:Int)) /\ W'.cell? ⟨w.heap.size,qq * 4 + 1,none⟩ = some (.int .i64 (T:Int)) /\ W'.cell? ⟨w.heap.size,qq * 4 + 2,none⟩ = some (.bool zb) /\ W'.cell? ⟨w.heap.size,qq * 4 + 3,none⟩ = some (.int .i64 (Ln:Int)))
           (first | exact ho_four (by assumption) hjq hqn HV.out | exact ho_four (hodrew (by assumption)) hjq hqn HV.out)
           (first | (go_at_call 98; refine (c5 _).mono ?_; rintro e w5 ⟨rfl,h5⟩; have hO5:Hid (HO w w.heap.size N.length (j + 1) (hvF N Bs) w5):=hostep h5 (by first | assumption | exact hodrew (by assumption)); clear h5))
         all_goals
           clear z0 z1 z2 z3 c9;go_wp2_with fail;go_roundw
           case rel => exact ⟨k + 1,sN + (Sz + Ln),by go_num,congrArg (Value.int .i64) HW.out,by omega,lH (by have e1:=HE.out; have e2:=hsn.out; omega),hO5⟩
           case measure => simp [intOf]; omega
       · obtain rfl:k = y.k.length:=by omega
         have hsn2:=hsn.out;rw [List.take_length] at hsn2;obtain ⟨C,T,hC,hT,C3,T3⟩:=HWR.out.nd y (List.mem_iff_getElem?.2 ⟨j,HY.out⟩);obtain ⟨yb,hyb⟩:∃ yb,yb = y.b:=⟨_,rfl⟩
         have hv:hvF N Bs j = #[.int .i64 (C:Int),.int .i64 (T:Int),.bool yb,.int .i64 (sN:Int)]:=by
           unfold hvF;rw [List.getD_eq_getElem?_getD,List.getD_eq_getElem?_getD,HY.out,F1.out,Option.getD_some,Option.getD_some,hC,hT,hyb,List.length_append,hsn2];rfl
         have n0:=(Below.cell hO.out.since (p:=⟨b,o + j * 5,none⟩) B1.out).trans M0.out;have n1:=(Below.cell hO.out.since (p:=⟨b,o + j * 5 + 1,none⟩) B1.out).trans M1.out;have n2:=(Below.cell hO.out.since (p:=⟨b,o + j * 5 + 2,none⟩) B1.out).trans M2.out;rw [hC] at n0;rw [hT] at n1;rw [<- hyb] at n2;have HV:=lH hv;clear hv hC hT hyb hsn2;go_wp2_with fail
         go_still_tail 20,(by kernel_rfl)
         have hO2:=hodrew hO;have hth:wr.drew.there w.heap.size (j * 4) 4:=fun i hi => by
           have:=hO2.out.th (j * 4 + i) (by omega);rw [Nat.zero_add] at this;exact this
         refine wpList_store_mid rfl 115 _ _ rfl w.heap.size (j * 4) #[.int .i64 (C:Int),.int .i64 (T:Int),.bool yb,.int .i64 (sN:Int)] rfl rfl hth (hinfo _ _ _ _) (hv_one _ _ _ _) ?_;have hO3:=ho_put hO2 hj (by rw [HV.out]; rfl) (fun _ => rfl);rw [HV.out] at hO3;dsimp only at hO3;clear hth hO2 n0 n1 n2;go_wp2_with fail;go_roundw
         case rel => exact ⟨j,(j:Int) - 1,by go_num,lH rfl,by omega,hO3⟩
         case measure => (simp [intOf] <;> omega)
end Tree
namespace Tree
open Tlv Strs
def BRow (W:World) (base:Nat) (v:Value) (l:List UInt8):Prop:=W.ownsRow base 5 1 v l.length (l.map fun b => Value.int .u8 b.toNat)
theorem app_str {ops:Array Oper} {rest:List Oper} {o:Oper} {a:Act} {Q:Exit -> Act -> World -> Prop} (hgd:o.guard = none) (sl x:Operand)
   (ho:o.op = .call { callee:=.builtin .append,args:=#[sl,x],argTypes:=#[99,9] })
   (w0 wr:World) (v:Value) (l:List UInt8) (hs:a.eval sl = v) (hown:BRow wr w0.heap.size v l) (hS:Since w0 wr) (s:ByteArray) (hx:a.eval x = .string s) (hsz:l.length + s.size <= 100000000)
   (h:∀ v' w',BRow w' w0.heap.size v' (l ++ s.data.toList) -> Since w0 w' -> wpList Tryz.prog ops Q rest (a.put o.dst v') w'):wpList Tryz.prog ops Q (o :: rest) a wr:=by
 obtain ⟨ht,hi,hz,hs0⟩:=elem8;obtain ⟨i,hi1,hi2⟩:=Option.map_eq_some_iff.1 hi;simp only [Prod.mk.injEq] at hi2;refine Lib.wpList_append_own_string wr hgd sl x 99 9 ho w0.heap.size 5 i ht Tryz.underlying9 hi1 hi2.1 hi2.2.1 hi2.2.2 v l.length _ hs hown s hx (by unfold maxLen; omega) (by omega) (Below.size hS) ?_;intro v' w' h1 h2 _;refine h v' w' ?_ (Below.grown hS h2 (Below.size hS) (fun k hk => (World.ownsRow.lt hown k hk).1));unfold BRow;rw [List.length_append,List.map_append];exact h1
theorem conv_brow {W:World} {base:Nat} {v:Value} {l:List UInt8} (h:BRow W base v l) (h0:0 < l.length):∀ dst,Tryz.prog.underlying dst = some .string -> (convert 99 dst v).run Tryz.prog W = .ok (.string (bs l)) W:=by
 have e:strOfNums (l.map fun b => ((b.toNat:Nat):Int)) = bs l:=by
   apply ba_ext
   rw [nums_list,List.map_map,list_bs]
   conv => rhs; rw [<- List.map_id l]
   apply List.map_congr_left
   intro b _;simp
 rw [<- e];refine conv_own W base v l.length _ ?_ h0;rw [List.map_map];exact h
theorem brow_since {W W':World} {base:Nat} {v:Value} {l:List UInt8} (h:BRow W base v l) (hs:Since W W'):BRow W' base v l:=Att.row_since h hs
def preL (N:List Nd) (Bs:List (List UInt8)) (k:Nat):List UInt8:=((N.zip Bs).take k).flatMap hdd
theorem pre_le (N:List Nd) (Bs:List (List UInt8)) (k:Nat):(preL N Bs k).length <= ((N.zip Bs).flatMap hdd).length:=by
 conv => rhs; rw [<- List.take_append_drop k (N.zip Bs)]
 rw [List.flatMap_append,List.length_append];exact Nat.le_add_right _ _
theorem pre_step {N:List Nd} {Bs:List (List UInt8)} {k:Nat} {x:Nd} {b:List UInt8} (h1:N[k]? = some x) (h2:Bs[k]? = some b):preL N Bs (k + 1) = preL N Bs k ++ Head.encL x.c.toNat x.t.toNat x.b b.length ++ x.d.data.toList:=by
 have h3:(N.zip Bs)[k]? = some (x,b):=by
   rw [List.getElem?_zip_eq_some];exact ⟨h1,h2⟩
 obtain ⟨h4,h5⟩:=List.getElem?_eq_some_iff.1 h3;unfold preL;rw [List.take_succ_eq_append_getElem h4,List.flatMap_append,h5,List.append_assoc];simp [hdd]
theorem ho_zero {w:World} {g n:Nat} {hv:Nat -> Array Value} {W:World} {C T Ln:Int} {B:Bool} (h:Hid (HO w g n 0 hv W)) (hn:0 < n) (hq:hv 0 = #[.int .i64 C,.int .i64 T,.bool B,.int .i64 Ln]) :
   Hid (HO w g n 0 hv W) /\ W.cell? ⟨g,0,none⟩ = some (.int .i64 C) /\ W.cell? ⟨g,1,none⟩ = some (.int .i64 T) /\ W.cell? ⟨g,2,none⟩ = some (.bool B) /\ W.cell? ⟨g,3,none⟩ = some (.int .i64 Ln):=by
 have h1:=ho_four h (Nat.le_refl _) hn hq
 simpa using h1
theorem hb_row {w W:World} {K:World -> Prop} [Kp K] {g:Nat} {C C':Array Value} {t:TypeId} (hs:Since w W) (hg:w.heap.size <= g) (hT:K w) (hr:W.heap[g]? = some (.cells C t (0,0))):HB w K g C' (W.setRow g C'):=by
 have h:=setRow_heap W g C C' t (0,0) hr;have hl:=(Array.getElem?_eq_some_iff.1 h).1;refine ⟨below_setRow hs hg _,Kp.keep hT (below_setRow hs hg _),fun i v hv => ?_,hl⟩
 show World.cell? _ _ = _
 simp [World.cell?,h,hv]
theorem enc_not (N:List Nd) (c1:RdT 96 N (fun v => #[v]) (.bool false)):RdT 53 N (fun v => #[v]) (.tuple #[.string ⟨#[]⟩,.int .i64 1]):=by
 intro w v h;have HS:=lH (Since.refl w);have HT:=lH h;clear h
 go_enter Tryz.func53,Tryz.ntmps53
 go_wp2_with fail;refine c1.calls0 HT.out ?_;intro w1 h1;replace HS:=lH (HS.out.step h1);clear h1;go_wp2_with fail;go_ret2;exact ⟨rfl,HS.out⟩
set_option maxHeartbeats 8000000 in
theorem enc_yes (N:List Nd) (Bs:List (List UInt8)) (S:List UInt8) (hW:Wr N Bs S) (hS:S.length <= 65535) (hs:Small N) (hn1:N.length <= 1000) (hk:∀ x ∈ N,x.k.length <= 100000) (c1:RdT 96 N (fun v => #[v]) (.bool true)):RdT 53 N (fun v => #[v]) (.tuple #[.string (bs S),.int .i64 0]):=by
 intro w v h;have c2:=heads_mk N Bs S hW hS hs hn1 hk;have HS:=lH (Since.refl w);have HT:=lH h;have hpos:=hW.pos;obtain ⟨b,o,c,rfl,-,-,b1,b2⟩:=treeform h hpos;have B1:=lH b1;have B2:=lH b2;have HWR:=lH hW;have HSL:=lH hs;have HSS:=lH hS;obtain ⟨R,hR⟩:∃ R,R = bs S:=⟨_,rfl⟩
 rw [<- hR];have HR:=lH hR;clear h b1 b2 hW hs hS hR hk
 go_enter Tryz.func53,Tryz.ntmps53
 go_wp2_with fail;refine c1.calls0 HT.out ?_;intro w1 h1;replace HS:=lH (HS.out.step h1);replace HT:=lH (HT.out.since h1);clear h1;go_wp2_with fail;refine (c2 w1 _ HT.out).mono ?_;rintro _ w2 ⟨g,rfl,hO⟩;clear c1 c2 HT;obtain ⟨y0,hy0⟩:∃ y,N[0]? = some y:=⟨_,List.getElem?_eq_getElem hpos⟩
 obtain ⟨C,T,hC,hT,C3,T3⟩:=HWR.out.nd y0 (List.mem_iff_getElem?.2 ⟨0,hy0⟩);obtain ⟨bz,hbz⟩:∃ bz,Bs[0]? = some bz:=⟨_,(HWR.out.body 0 y0 hy0).1⟩
 obtain ⟨Ln,hLn⟩:∃ Ln,Ln = bz.length:=⟨_,rfl⟩
 obtain ⟨zb,hzb⟩:∃ zb,zb = y0.b:=⟨_,rfl⟩
 have hL6:Ln <= 65535:=by rw [hLn]; exact Nat.le_trans (HWR.out.bnd bz (List.mem_iff_getElem?.2 ⟨0,hbz⟩)) HSS.out
 obtain ⟨X,hX⟩:∃ X,X = bs (Head.encL C T zb Ln):=⟨_,rfl⟩
 have hX7:=(Head.encL_len C T zb Ln)
 have hXs:X.size = (Head.encL C T zb Ln).length:=by rw [hX,size_bs]
 have c5:=RefHead.psize (C:Int) (T:Int) (Ln:Int) zb X 0 (by omega) (Head.enc_ok C T Ln zb C3 T3 hL6 X hX);obtain ⟨Sz,hSz⟩:∃ Sz,Sz = X.size:=⟨_,rfl⟩
 rw [<- hSz] at c5;have hv:hvF N Bs 0 = #[.int .i64 (C:Int),.int .i64 (T:Int),.bool zb,.int .i64 (Ln:Int)]:=by
   unfold hvF;rw [List.getD_eq_getElem?_getD,List.getD_eq_getElem?_getD,hy0,hbz,Option.getD_some,Option.getD_some,hC,hT,hLn,hzb]
 have htot:Sz + Ln = S.length:=by
   have h1:=elAt_len hy0 hbz;rw [HWR.out.root,hC,hT,Int.toNat_natCast,Int.toNat_natCast] at h1;rw [h1,hSz,hXs,hLn,hzb]
 have hS6:=HSS.out;have s1:Sz <= 65535:=by omega
 have hw:IntKind.i64.wrap ((Sz:Int) + (Ln:Int)) = ((Sz + Ln:Nat):Int):=by
   rw [IntWalk.i64_in ((Sz:Int) + (Ln:Int)) (by omega)];omega
 have t1:decide ((65535:Int) < ((Sz + Ln:Nat):Int)) = false:=decide_eq_false (by omega);have t2:decide ((65535:Int) < (Sz:Int) + (Ln:Int)) = false:=decide_eq_false (by omega);have HV:=lH hv;clear hy0 hC hT hbz hLn hzb hX hXs hSz hX7 C3 T3 hv htot hS6;have x1:(0:Int) < (N.length:Int):=by omega
 go_wp2_with fail;obtain ⟨_,z0,z1,z2,z3⟩:=ho_zero hO hpos HV.out
 go_region_held3 (fun W' => Hid (HO w1 g N.length 0 (hvF N Bs) W') /\ W'.cell? ⟨g,0,none⟩ = some (.int .i64 (C:Int)) /\ W'.cell? ⟨g,1,none⟩ = some (.int .i64 (T:Int)) /\ W'.cell? ⟨g,2,none⟩ = some (.bool zb) /\ W'.cell? ⟨g,3,none⟩ = some (.int .i64 (Ln:Int)))
   (first | exact ho_zero (by assumption) hpos HV.out | exact ho_zero (hodrew (by assumption)) hpos HV.out)
   (first | (go_at_call 98; refine (c5 _).mono ?_; rintro e w5 ⟨rfl,h5⟩; have hO5:Hid (HO w1 g N.length 0 (hvF N Bs) w5):=hostep h5 (by first | assumption | exact hodrew (by assumption)); clear h5))
 clear z0 z1 z2 z3 c5 t1 t2 hw hO x1 HV;have HS5:=lH (HS.out.step hO5.out.since);clear HS;go_wp2_with fail;go_loopw [5,27] (fun V i wr => ∃ k:Nat,k <= N.length /\ i = .int .i64 (k:Int) /\ Hid (BRow wr w5.heap.size V (preL N Bs k)) /\ Hid (Since w5 wr)) (fun _ i _ => N.length - (intOf i).toNat)
 case atStart => exact ⟨0,Nat.zero_le _,rfl,lH (World.ownsRow_nil _ _ _ _),lH (Since.refl _)⟩
 case round =>
   obtain ⟨k,hk,rfl,HB,HI⟩:=hrel;have HSW:=lH (HS5.out.step HI.out)
   by_cases hlt:k < N.length
   · obtain ⟨y,hy⟩:∃ y,N[k]? = some y:=⟨_,List.getElem?_eq_getElem hlt⟩
     obtain ⟨A,q,-,-,-,m3,-,-⟩:=B2.out k y hy;have M3:=lH m3;obtain ⟨C,T,hC,hT,C3,T3⟩:=HWR.out.nd y (List.mem_iff_getElem?.2 ⟨k,hy⟩);obtain ⟨bz,hbz⟩:∃ bz,Bs[k]? = some bz:=⟨_,(HWR.out.body k y hy).1⟩
     obtain ⟨Ln,hLn⟩:∃ Ln,Ln = bz.length:=⟨_,rfl⟩
     obtain ⟨zb,hzb⟩:∃ zb,zb = y.b:=⟨_,rfl⟩
     have hL6:Ln <= 65535:=by rw [hLn]; exact Nat.le_trans (HWR.out.bnd bz (List.mem_iff_getElem?.2 ⟨k,hbz⟩)) HSS.out
     obtain ⟨X,hX⟩:∃ X,X = bs (Head.encL C T zb Ln):=⟨_,rfl⟩
     have c5:=Head.enc_ok C T Ln zb C3 T3 hL6 X hX;have hv:hvF N Bs k = #[.int .i64 (C:Int),.int .i64 (T:Int),.bool zb,.int .i64 (Ln:Int)]:=by
       unfold hvF;rw [List.getD_eq_getElem?_getD,List.getD_eq_getElem?_getD,hy,hbz,Option.getD_some,Option.getD_some,hC,hT,hLn,hzb]
     have hp:preL N Bs (k + 1) = preL N Bs k ++ X.data.toList ++ y.d.data.toList:=by
       rw [pre_step hy hbz,hC,hT,Int.toNat_natCast,Int.toNat_natCast,hX,hLn,hzb];rfl
     have hpl:=Nat.le_trans (pre_le N Bs (k + 1)) (by rw [HWR.out.zip]; exact HSS.out);have hpl2:(preL N Bs k).length + X.size + y.d.size <= 65535:=by
       rw [hp,List.length_append,List.length_append] at hpl;exact hpl
     have HP:=lH hp;have x1:(k:Int) < (N.length:Int):=by omega
     have x2:(0:Int) <= (k:Int):=by omega
     obtain ⟨-,z0,z1,z2,z3⟩:=ho_four (hostep HI.out hO5) (Nat.zero_le _) hlt hv;clear hp hpl hX hLn hzb hbz hC hT hy C3 T3 hv m3;have r1:(wr.alloc (.cells #[.int .i64 0,.int .i64 0,.bool false,.int .i64 0] 115)).heap[wr.heap.size]? = some (.cells #[.int .i64 0,.int .i64 0,.bool false,.int .i64 0] 115 (0,0)):=heap_alloc_new wr _;have hb:=lH (hb_row (K:=KT) (C':=#[.int .i64 (C:Int),.int .i64 (T:Int),.bool zb,.int .i64 (Ln:Int)]) ((Since.refl wr).alloc _) (Nat.le_refl _) trivial r1);obtain ⟨_,y0,y1,y2,y3⟩:=hb4 hb;go_wp2_with (refine wpList_store_row rfl 115 _ _ rfl wr.heap.size #[.int .i64 (C:Int),.int .i64 (T:Int),.bool zb,.int .i64 (Ln:Int)] (by rfl) (by rfl) _ _ r1 (hinfo _ _ _ _) rfl (hv_one _ _ _ _) ?_)
     refine c5.calls0 ?_;intro W4 h4;have H4:=lH (hb.out.since.step h4);clear h4 r1 y0 y1 y2 y3 z0 z1 z2 z3 hb c5;have tok1:True:=trivial;have tok2:True:=trivial;go_wp2_with (first
       | (at_builtin; have _t:=tok1; refine app_str rfl _ _ rfl w5 W4 _ (preL N Bs k) rfl (brow_since HB.out H4.out) (HI.out.step H4.out) X rfl (by omega) ?_; intro V2 W6 hr6 h6; clear tok1; have n3:=(Below.cell (HS5.out.step h6) (p:=⟨b,o + k * 5 + 3,none⟩) B1.out).trans M3.out)
       | (at_builtin; have _t:=tok2; refine app_str rfl _ _ rfl w5 W6 _ (preL N Bs k ++ X.data.toList) rfl hr6 h6 y.d rfl (by rw [List.length_append]; have:X.data.toList.length = X.size:=rfl; omega) ?_; intro V3 W7 hr7 h7; clear tok2 n3))
     rw [<- HP.out] at hr7;have HR7:=lH hr7;have HI7:=lH h7;clear hr7 h7 hr6 h6;go_wp2_with fail;go_roundw
     case rel => exact ⟨k + 1,by omega,by go_num,HR7,HI7⟩
     case measure => (simp [intOf] <;> omega)
   · obtain rfl:k = N.length:=by omega
     have hfull:preL N Bs N.length = S:=by
       rw [<- HWR.out.zip];unfold preL;rw [List.take_of_length_le (by rw [List.length_zip]; omega)]
     have h0:0 < S.length:=by
       have h1:=HWR.out.root;obtain ⟨y,hy⟩:∃ y,N[0]? = some y:=⟨_,List.getElem?_eq_getElem hpos⟩
       rw [<- h1,elAt_len hy (HWR.out.body 0 y hy).1];have:=encL_two y.c.toNat y.t.toNat y.b (y.d.data.toList ++ elsAt N Bs y.k).length;omega
     have hB:=HB.out;rw [hfull] at hB;have g:=conv_brow hB h0;rw [<- HR.out] at g;clear hfull h0 hB;go_wp2_with fail;go_ret2;exact ⟨rfl,HSW.out⟩
end Tree
namespace Tree
open Tlv Strs
structure DP (N:List Nd) (Lv:List Nat) (i:Nat) (f:Nat -> Nat):Prop where
 old:∀ a,a < i -> Lv[a]? = some (f a)
 new:∀ a,i <= a -> a < N.length -> ∀ p x,p < i -> N[p]? = some x -> (a:Int) ∈ x.k -> Lv[a]? = some (f a + 1)
 root:i = 0 -> f 0 = 0
structure DQ (N:List Nd) (Lv:List Nat) (i:Nat) (f:Nat -> Nat) (ks:List Int):Prop where
 old:∀ a,a <= i -> Lv[a]? = some (f a)
 new:∀ a,i < a -> a < N.length -> ∀ p x,p < i -> N[p]? = some x -> (a:Int) ∈ x.k -> Lv[a]? = some (f a + 1)
 kid:∀ a:Nat,(a:Int) ∈ ks -> Lv[a]? = some (f a + 1)
theorem node_info (c t:Int) (b:Bool) (d:ByteArray) (A:Option Addr) (n q:Nat):(Tryz.prog.info? 87).map (·.size) = some (#[Value.int .i64 c,.int .i64 t,.bool b,.string d,.slice A n q]:Array Value).size:=by kernel_rfl
theorem node_one (c t:Int) (b:Bool) (d:ByteArray) (A:Option Addr) (n q:Nat):(#[Value.int .i64 c,.int .i64 t,.bool b,.string d,.slice A n q]:Array Value).all (·.oneCell') = true:=by
 rw [Array.all_eq_true];intro i hi
 match i,hi with
 | 0,_ | 1,_ | 2,_ | 3,_ | 4,_ => rfl
theorem drow_since {w w':World} {b t n:Nat} {f:Nat -> Value} (h:w.rowIs b t n f) (hs:Since w w'):w'.rowIs b t n f:=h.of_block (Below.block hs b h.lt)
end Tree
namespace Tree
open Tlv Strs Rw
def MkT (f:Nat) (args:Array Value) (N:List Nd):Prop:=∀ w,Calls Tryz.prog f args w fun e w' => ∃ v,e = .returned v /\ TreeS w' v N /\ Since w w'
theorem leaf_mk (c t:Int) (d:ByteArray):MkT 52 #[.int .i64 c,.int .i64 t,.string d] [⟨c,t,false,d,[]⟩]:=by
 intro w
 go_enter Tryz.func52,Tryz.ntmps52
 go_wp2_with fail;go_ret;refine ⟨_,rfl,⟨[(⟨c,t,false,d,[]⟩,.slice none 0 0)],⟨?_, ?_⟩,rfl⟩,(Since.refl w).alloc _⟩
 · exact SlR.lit w 5 1 _ rfl (by decide) _ rfl _
 · intro x hx;obtain rfl:=List.mem_singleton.1 hx;exact SlR.nil _ 1
def shift (n:Int) (x:Nd):Nd:={ x with k:=x.k.map (· + n) }
def mrows (g m:Nat) (D R:List (Nd × Value)):List Row:=⟨87,5,.slice (some ⟨g,0,none⟩) m m,m,(D ++ R).flatMap nc⟩ :: D.map kr
theorem mset (D R:List (Nd × Value)) (x:Nd) (v u:Value) (ks:List Int):((D ++ (x,v) :: R).flatMap nc).set (D.length * 5 + 4) u = (D ++ ({ x with k:=ks },u) :: R).flatMap nc:=by
 rw [List.flatMap_append,List.flatMap_append,List.set_append_right _ _ (by rw [flat_nc_len]; omega),flat_nc_len,show D.length * 5 + 4 - D.length * 5 = 4 by omega];rfl
theorem mset2 (D R:List (Nd × Value)) (x:Nd) (v u:Value) (ks:List Int):(((D ++ [(x,v)]) ++ R).flatMap nc).set (D.length * 5 + 4) u = ((D ++ [({ x with k:=ks },u)]) ++ R).flatMap nc:=by
 rw [List.append_assoc,List.append_assoc];exact mset D R x v u ks
theorem flat_nc_one:∀ (ns:List (Nd × Value)),(∀ x ∈ ns,x.2.oneCell' = true) -> ∀ v ∈ ns.flatMap nc,v.oneCell' = true:=by
 intro ns h v hv;obtain ⟨x,hx,hv⟩:=List.mem_flatMap.1 hv;simp only [nc,List.mem_cons,List.not_mem_nil,or_false] at hv;rcases hv with rfl | rfl | rfl | rfl | rfl
 · rfl
 · rfl
 · rfl
 · rfl
 · exact h x hx
theorem nd_make:∃ i:TypeInfo,Tryz.prog.info? 87 = some i /\ i.zero = some (.agg #[.int .i64 0,.int .i64 0,.bool false,.string ⟨#[]⟩,.slice none 0 0]) /\ i.size = 5 /\ i.bytes = 64:=by
 have h:(Tryz.prog.info? 87).map (fun i => (i.zero,i.size,i.bytes)) = some (some (.agg #[.int .i64 0,.int .i64 0,.bool false,.string ⟨#[]⟩,.slice none 0 0]),5,64):=by kernel_rfl
 cases hq:Tryz.prog.info? 87 with
 | none => rw [hq] at h; cases h
 | some i =>
   rw [hq] at h;have h2:=Option.some.inj h;exact ⟨i,rfl,congrArg Prod.fst h2,congrArg (fun p => p.2.1) h2,congrArg (fun p => p.2.2) h2⟩
theorem nodes_at {ns:List (Nd × Value)} {i:Nat} {x:Nd} {v:Value} (h:ns[i]? = some (x,v)):ns.drop i = (x,v) :: ns.drop (i + 1) /\ i < ns.length:=by
 obtain ⟨h1,h2⟩:=List.getElem?_eq_some_iff.1 h;exact ⟨by rw [List.drop_eq_getElem_cons h1,h2],h1⟩
structure Fair (N:List Nd):Prop where
 len:N.length <= 1000
 kids:∀ x ∈ N,x.k.length <= 100000
 nums:∀ x ∈ N,∀ a ∈ x.k,-1000000 <= a /\ a <= 1000000
def TreeO (W:World) (B:Nat) (v:Value) (N:List Nd):Prop:=∃ g m D,v = .slice (some ⟨g,0,none⟩) m m /\ Rw.Rows W B (mrows g m D []) /\ D.length = m /\ D.map Prod.fst = N
theorem TreeO.since {W W':World} {B:Nat} {v:Value} {N:List Nd} (h:TreeO W B v N) (hs:Since W W'):TreeO W' B v N:=by
 obtain ⟨g,m,D,h1,h2,h3⟩:=h;exact ⟨g,m,D,h1,h2.since hs,h3⟩
theorem TreeO.base {W:World} {B B':Nat} {v:Value} {N:List Nd} (h:TreeO W B v N) (hb:B' <= B):TreeO W B' v N:=by
 obtain ⟨g,m,D,h1,h2,h3⟩:=h;exact ⟨g,m,D,h1,rows_base h2 hb,h3⟩
theorem TreeO.low {W:World} {B:Nat} {v:Value} {N:List Nd} (h:TreeO W B v N) {a:Addr} (ha:a.block < B) (u:Value):TreeO (W.setCell a u) B v N:=by
 obtain ⟨g,m,D,h1,h2,h3⟩:=h;exact ⟨g,m,D,h1,rows_low h2 ha u,h3⟩
theorem TreeO.read {W:World} {B:Nat} {v:Value} {N:List Nd} (h:TreeO W B v N):TreeS W v N:=by
 obtain ⟨g,m,D,rfl,hR,hD,rfl⟩:=h;refine ⟨D,⟨?_,fun x hx => ?_⟩,rfl⟩
 · have h8:=hR.own ⟨87,5,.slice (some ⟨g,0,none⟩) m m,m,(D ++ []).flatMap nc⟩ (by simp [mrows]);have h9:SlR W 5 (.slice (some ⟨g,0,none⟩) m m) m ((D ++ []).flatMap nc):=SlR.own h8;rw [List.append_nil] at h9;rw [hD];exact h9
 · have h9:=hR.own (kr x) (by unfold mrows; exact List.mem_cons_of_mem _ (List.mem_map.2 ⟨x,hx,rfl⟩));have h8:SlR W 1 x.2 x.1.k.length (x.1.k.map (Value.int .i64)):=SlR.own h9;exact h8
set_option maxHeartbeats 8000000 in
theorem moved_o (N:List Nd) (hF:Fair N) (hpos:0 < N.length) (n:Int) (hn:-1000000 <= n /\ n <= 1000000) (w:World) (v:Value) (hT:TreeS w v N):Calls Tryz.prog 100 #[v,.int .i64 n] w fun e w' => ∃ v',e = .returned v' /\ TreeO w' w.heap.size v' (N.map (shift n)) /\ Since w w':=by
 obtain ⟨ns,hns,rfl⟩:=hT;rw [List.length_map] at hpos;obtain ⟨b,o,c,rfl,hc1,hc2,b1,b2⟩:=SlR.form hns.1 hpos;have hm:=hF.len;rw [List.length_map] at hm;obtain ⟨m,hmm⟩:∃ m,m = ns.length:=⟨_,rfl⟩
 have hmk:∀ w:World,(Instr.makeSlice 75 (.int .i64 (m:Int)) (.int .i64 (m:Int))).run Tryz.prog w = .ok (.slice (some ⟨w.heap.size,0,none⟩) m m) (w.alloc (.cells (madeCells #[.int .i64 0,.int .i64 0,.bool false,.string ⟨#[]⟩,.slice none 0 0] (m * 5)) 87)):=fun w => by
   obtain ⟨i,h1,h2,h3,h4⟩:=nd_make;have h9:=run_make (P:=Tryz.prog) w 75 87 i _ Tryz.underlying75 h1 h2 .i64 .i64 (m:Int) (m:Int) (by omega) (by omega) (by rw [h4]; omega) (by omega);rw [h3,Int.toNat_natCast] at h9;exact h9
 have hone:∀ x ∈ ns,x.2.oneCell' = true:=fun x hx => by
   obtain ⟨A,q,he,-,-⟩:=(hns.2 x hx).slice;rw [he];rfl
 have hg:=heap_alloc_new w (.cells (madeCells #[.int .i64 0,.int .i64 0,.bool false,.string ⟨#[]⟩,.slice none 0 0] (m * 5)) 87);have hr:∀ ty,(Builtin.copy_ #[75,75] ty #[.slice (some ⟨w.heap.size,0,none⟩) m m,.slice (some ⟨b,o,none⟩) m c]).run Tryz.prog (w.alloc (.cells (madeCells #[.int .i64 0,.int .i64 0,.bool false,.string ⟨#[]⟩,.slice none 0 0] (m * 5)) 87)) =
     .ok (goInt m) ((w.alloc (.cells (madeCells #[.int .i64 0,.int .i64 0,.bool false,.string ⟨#[]⟩,.slice none 0 0] (m * 5)) 87)).setRow w.heap.size (ns.flatMap nc).toArray):=fun ty => by
   have h9:=run_copy_k (P:=Tryz.prog) _ 75 75 ty 87 5 w.heap.size 0 m m ⟨b,o,none⟩ m c _ 87 (ns.flatMap nc) m Tryz.underlying75 (by kernel_rfl) hg (by exact (Nat.min_self m).symm) (by rw [flat_nc_len,hmm]) (fun j u hu => by
     rw [Addr.add_mid,World.cell?_alloc_old _ _ ⟨b,o + j,none⟩ (show b ≠ w.heap.size by omega)];exact b2 j u hu) (by rw [size_madeCells,flat_nc_len,hmm]; omega) (flat_nc_one ns hone)
   rw [h9]
   congr 2
   have e1:(ns.flatMap nc).length = m * 5:=by rw [flat_nc_len,hmm]
   have e2:(madeCells #[Value.int .i64 0,.int .i64 0,.bool false,.string ⟨#[]⟩,.slice none 0 0] (m * 5)).toList.length = m * 5:=by rw [Array.length_toList,size_madeCells]
   rw [List.take_zero,List.nil_append,Nat.zero_add,List.drop_of_length_le (by rw [e1,e2]; exact Nat.le_refl _),List.append_nil]
 have hrow:Rw.Rows ((w.alloc (.cells (madeCells #[.int .i64 0,.int .i64 0,.bool false,.string ⟨#[]⟩,.slice none 0 0] (m * 5)) 87)).setRow w.heap.size (ns.flatMap nc).toArray) w.heap.size (mrows w.heap.size m [] ns):=by
   refine ⟨fun r hr => ?_,by simp [mrows]⟩;obtain rfl:r = ⟨87,5,.slice (some ⟨w.heap.size,0,none⟩) m m,m,ns.flatMap nc⟩:=by simpa [mrows] using hr
   refine ⟨by rw [flat_nc_len,hmm],.inr ⟨w.heap.size,m,(ns.flatMap nc).toArray,rfl,Nat.le_refl _,setRow_heap _ _ _ _ _ _ hg,Nat.le_refl _,by unfold maxLen; omega, ?_, ?_⟩⟩
   · show (ns.flatMap nc).length = m * 5
     rw [flat_nc_len,hmm]
   · rw [List.toList_toArray,List.take_of_length_le (by rw [flat_nc_len,hmm]; exact Nat.le_refl _)]
 have hS0:Since w ((w.alloc (.cells (madeCells #[.int .i64 0,.int .i64 0,.bool false,.string ⟨#[]⟩,.slice none 0 0] (m * 5)) 87)).setRow w.heap.size (ns.flatMap nc).toArray):=below_setRow ((Since.refl w).alloc _) (Nat.le_refl _) _;have hnd:∀ (i:Nat) (x:Nd) (v:Value),ns[i]? = some (x,v) -> w.cell? ⟨b,o + i * 5 + 4,none⟩ = some v /\ IntsS w v x.k /\ x.k.length <= 100000 /\ ∀ a ∈ x.k,-1000000 <= a /\ a <= 1000000:=fun i x v h => by
   have hm:=List.mem_iff_getElem?.2 ⟨i,h⟩;have h9:=b2 (i * 5 + 4) v (nc_at ns i (x,v) h 4 v rfl);rw [<- Nat.add_assoc] at h9;exact ⟨h9,hns.2 _ hm,hF.kids x (List.mem_map.2 ⟨_,hm,rfl⟩),hF.nums x (List.mem_map.2 ⟨_,hm,rfl⟩)⟩
 have HND:=lH hnd;have HM:=lH hmm;have hm2:m <= 1000:=by omega
 have B1:=lH b1;have HRW:=lH hrow;have HS:=lH hS0;rw [<- hmm];clear hns hF hpos hc1 hc2 b2 hone hg hrow hS0 hnd hmm b1
 go_enter Tryz.func100,Tryz.ntmps100
 go_wp2_with (at_builtin; refine Lib.wpList_copy_run _ rfl _ _ 75 75 rfl _ _ (by rfl) (by rfl) (hr _) ?_)
 clear hr hmk;generalize World.setRow _ _ _ = W1 at HRW HS ⊢;go_loopw [17] (fun i wr => ∃ (a:Nat) (D:List (Nd × Value)),i = .int .i64 (a:Int) /\ a <= m /\ Hid (D.length = a) /\ Hid (D.map Prod.fst = ((ns.take a).map Prod.fst).map (shift n)) /\ Hid (Rw.Rows wr w.heap.size (mrows w.heap.size m D (ns.drop a))) /\ Hid (Since w wr)) (fun i _ => m - (intOf i).toNat)
 case atStart => exact ⟨0,[],rfl,Nat.zero_le _,lH rfl,lH rfl,HRW,HS⟩
 case round =>
   clear HRW HS;obtain ⟨a,D,rfl,ha,hD,hDm,HRW,HS⟩:=hrel
   by_cases hlt:a < m
   · obtain ⟨⟨x,v⟩,hx⟩:∃ x,ns[a]? = some x:=⟨_,List.getElem?_eq_getElem (by rw [<- HM.out]; exact hlt)⟩
     obtain ⟨k4,k5,hkl,hkn⟩:=HND.out a x v hx;obtain ⟨hdr,-⟩:=nodes_at hx;obtain ⟨A,q,rfl,-,-⟩:=k5.slice;have M4:=lH k4;have K5:=lH k5;have HKN:=lH hkn;have HX:=lH hx;have hR:=HRW.out;rw [hdr] at hR;have HR:=lH (show Rw.Rows wr w.heap.size ([] ++ ⟨87,5,.slice (some ⟨w.heap.size,0,none⟩) m m,m,(D ++ (x,.slice A x.k.length q) :: ns.drop (a + 1)).flatMap nc⟩ :: D.map kr) from hR);have hst:=mset D (ns.drop (a + 1)) x (.slice A x.k.length q) (.slice none 0 0) [];rw [hD.out] at hst;have HST:=lH hst;have x1:(a:Int) < (m:Int):=by omega
     have x2:(0:Int) <= (a:Int):=by omega
     have HP:=lH (show a * 5 + 4 < m * 5 by omega);have hle:=IntsS.le K5.out;clear k4 k5 hkn hx hdr hR hst HRW;go_wp2_with (refine store_rows rfl 44 _ _ (by rfl) intl_one w wr [] _ 87 5 w.heap.size m m _ HR.out HS.out (a * 5 + 4) HP.out (by rfl) (.slice none 0 0) (by rfl) rfl ?_; intro W2 HQ2 HT2 hk2; rw [HST.out] at HQ2; have n4:=(Below.cell HT2 (p:=⟨b,o + a * 5 + 4,none⟩) B1.out).trans M4.out)
     have HS2:=lH HT2;have hR2:Rw.Rows W2 w.heap.size (mrows w.heap.size m (D ++ [({ x with k:=(x.k.take 0).map (· + n) },.slice none 0 0)]) (ns.drop (a + 1))):=by
       have h9:=HQ2.add_nil 3 1;unfold mrows;rw [List.append_assoc,List.map_append];exact h9
     have HR2:=lH hR2;clear HQ2 HT2 hk2 n4 hR2 HR HS;go_loopw [30] (fun i wr => ∃ (e:Nat) (kv:Value),i = .int .i64 (e:Int) /\ e <= x.k.length /\ Hid (Rw.Rows wr w.heap.size (mrows w.heap.size m (D ++ [({ x with k:=(x.k.take e).map (· + n) },kv)]) (ns.drop (a + 1)))) /\ Hid (Since w wr)) (fun i _ => x.k.length - (intOf i).toNat)
     case atStart => exact ⟨0,_,rfl,Nat.zero_le _,HR2,HS2⟩
     case round =>
       clear HR2 HS2;obtain ⟨e,kv,rfl,he,HR,HS⟩:=hrel
       by_cases hel:e < x.k.length
       · obtain ⟨bk,ok,dk,hv,-,-,l3,l4⟩:=K5.out.form (by omega);obtain ⟨rfl,-,rfl⟩:=Value.slice.inj hv;clear hv;obtain ⟨y,hy⟩:∃ y,x.k[e]? = some y:=⟨_,List.getElem?_eq_getElem hel⟩
         have c9:=(Below.cell HS.out (p:=⟨bk,ok + e,none⟩) l3).trans (l4 e hel);rw [show x.k.getD e 0 = y by simp [List.getD,hy]] at c9;have hyb:=HKN.out y (List.mem_iff_getElem?.2 ⟨e,hy⟩);have etk:(x.k.take (e + 1)).map (· + n) = (x.k.take e).map (· + n) ++ [y + n]:=by
           obtain ⟨g1,g2⟩:=List.getElem?_eq_some_iff.1 hy;rw [List.take_succ_eq_append_getElem g1,g2,List.map_append];rfl
         have hlen:((x.k.take e).map (· + n)).length = e:=by rw [List.length_map,List.length_take]; omega
         obtain ⟨L,hL⟩:∃ L,L = (x.k.take e).map (· + n):=⟨_,rfl⟩
         rw [<- hL] at etk hlen;have hR:=HR.out;rw [<- hL] at hR;have hR3:Rw.Rows wr w.heap.size ((⟨87,5,.slice (some ⟨w.heap.size,0,none⟩) m m,m,((D ++ [({ x with k:=L },kv)]) ++ ns.drop (a + 1)).flatMap nc⟩ :: D.map kr) ++ ⟨3,1,kv,e,L.map (Value.int .i64)⟩ :: []):=by
           unfold mrows at hR;rw [List.map_append] at hR;rw [<- hlen];exact hR
         have o2:=((own_cells (hR3.own ⟨87,5,.slice (some ⟨w.heap.size,0,none⟩) m m,m,((D ++ [({ x with k:=L },kv)]) ++ ns.drop (a + 1)).flatMap nc⟩ (by simp))).2.2 (a * 5 + 4) kv (by
           rw [List.append_assoc];have h9:=nc_at (D ++ ([(({ x with k:=L }:Nd),kv)] ++ ns.drop (a + 1))) a ({ x with k:=L },kv) (by rw [<- hD.out,List.getElem?_append_right (Nat.le_refl _),Nat.sub_self]; rfl) 4 kv rfl;exact h9)).1
         have hst:=fun (u:Value) (ks:List Int) => mset2 D (ns.drop (a + 1)) { x with k:=L } kv u ks
         rw [hD.out] at hst;have HST:=lH hst;have HLN:=lH hlen;have HR3:=lH hR3;have HE:=lH etk;have hw:IntKind.i64.wrap (y + n) = y + n:=IntWalk.i64_in _ (by omega);have HB1:=lH (show e + 1 <= maxLen by unfold maxLen; omega);have HB2:=lH (show (e + 1) * 8 <= 140737488355328 by omega);clear hR hR3 etk hy hL HR l4 hst hlen;have tok1:True:=trivial;go_wp2_with (first
           | (at_builtin; have _t:=tok1; refine app_rows elemT rfl _ _ (by rfl) w wr _ rfl (⟨87,5,.slice (some ⟨w.heap.size,0,none⟩) m m,m,((D ++ [({ x with k:=L },kv)]) ++ ns.drop (a + 1)).flatMap nc⟩ :: D.map kr) [] kv e (L.map (Value.int .i64)) (by rfl) HR3.out HS.out #[.int .i64 (y + n)] 1 1 (by rfl) rfl (by intro v hv; simp at hv; subst hv; rfl) HB1.out HB2.out ?_; intro kv2 w6 HQ1 HT1 hk1; obtain ⟨ka,kc,rfl⟩:∃ A c,kv2 = .slice A (e + 1) c:=own_any HQ1.get; have HR6:=lH HQ1; have HS6:=lH HT1; clear HQ1 HT1 hk1 tok1 o2 c9)
           | (refine store_rows rfl 44 _ _ (by rfl) intl_one w w6 [] (D.map kr ++ ([⟨3,1,.slice ka (e + 1) kc,e + 1,L.map (Value.int .i64) ++ ([.int .i64 (y + n)]:List Value)⟩]:List Row)) 87 5 w.heap.size m m _ HR6.out HS6.out (a * 5 + 4) HP.out (by rfl) (.slice ka (e + 1) kc) (by rfl) rfl ?_; intro w7 HQ2 HT2 hk2; rw [HST.out _ (L ++ [y + n])] at HQ2))
         have hR7:Rw.Rows w7 w.heap.size (mrows w.heap.size m (D ++ [({ x with k:=(x.k.take (e + 1)).map (· + n) },.slice ka (e + 1) kc)]) (ns.drop (a + 1))):=by
           unfold mrows;rw [List.map_append,HE.out];have e9:kr ({ x with k:=L ++ [y + n] },.slice ka (e + 1) kc) = ⟨3,1,.slice ka (e + 1) kc,L.length + 1,L.map (Value.int .i64) ++ [.int .i64 (y + n)]⟩:=by
             unfold kr;simp
           have hL9:L.length = e:=HLN.out;rw [List.map_cons,List.map_nil,e9,hL9];exact HQ2
         have HR7:=lH hR7;have HS7:=lH HT2;clear hR7 HQ2 HT2 hk2;go_wp2_with fail;go_roundw
         case rel => exact ⟨e + 1,_,by go_num,by omega,HR7,HS7⟩
         case measure => (simp [intOf] <;> omega)
       · obtain rfl:e = x.k.length:=by omega
         have hR:=HR.out;rw [List.take_length] at hR;have HR8:=lH hR;have hDm2:=lH (show (D ++ [(({ x with k:=x.k.map (· + n) }:Nd),kv)]).map Prod.fst = ((ns.take (a + 1)).map Prod.fst).map (shift n) by
           obtain ⟨g1,g2⟩:=List.getElem?_eq_some_iff.1 HX.out;rw [List.map_append,hDm.out,List.take_succ_eq_append_getElem g1,g2,List.map_append,List.map_append];rfl)
         have hD2:=lH (show (D ++ [(({ x with k:=x.k.map (· + n) }:Nd),kv)]).length = a + 1 by rw [List.length_append,hD.out]; rfl);clear hR HR;go_wp2_with fail;go_roundw
         case rel => exact ⟨a + 1,_,by go_num,by omega,hD2,hDm2,HR8,HS⟩
         case measure => (simp [intOf] <;> omega)
   · obtain rfl:a = m:=by omega
     have hT:TreeO wr w.heap.size (.slice (some ⟨w.heap.size,0,none⟩) a a) ((ns.map Prod.fst).map (shift n)):=by
       have hR:=HRW.out;rw [List.drop_of_length_le (by rw [<- HM.out]; exact Nat.le_refl _)] at hR;exact ⟨w.heap.size,a,D,rfl,hR,hD.out,by rw [hDm.out,List.take_of_length_le (by rw [<- HM.out]; exact Nat.le_refl _)]⟩
     have HT:=lH hT;clear hT;go_wp2_with fail;go_ret;exact ⟨_,rfl,HT.out,HS.out⟩
end Tree
end Go.Proofs.YtpanhhjkecebkaaGreat
namespace Go.Proofs.YtpanhhjkecebkaaGreat
namespace Tree
open Tlv
theorem tops_shift (g:F):∀ (i d:Nat),(g.tops (i + d)).map (· - (d:Int)) = g.tops i:=by
 induction g with
 | nil => intro i d; rfl
 | prim c t d' nx ih =>
   intro i d
   show (((i + d:Nat):Int) - (d:Int)) :: ((nx.tops (i + d + 1)).map _) = (i:Int) :: nx.tops (i + 1)
   rw [show i + d + 1 = i + 1 + d by omega,ih,show ((i + d:Nat):Int) - (d:Int) = (i:Int) by omega]
 | cons c t ks nx _ ih =>
   intro i d
   show (((i + d:Nat):Int) - (d:Int)) :: ((nx.tops (i + d + 1 + ks.cnt)).map _) = (i:Int) :: nx.tops (i + 1 + ks.cnt)
   rw [show i + d + 1 + ks.cnt = i + 1 + ks.cnt + d by omega,ih,show ((i + d:Nat):Int) - (d:Int) = (i:Int) by omega]
theorem flat_down (g:F):∀ (i d:Nat),(g.flat (i + d)).map (shift (-(d:Int))) = g.flat i:=by
 induction g with
 | nil => intro i d; rfl
 | prim c t d' nx ih =>
   intro i d
   show shift (-(d:Int)) ⟨c,t,false,d',[]⟩ :: ((nx.flat (i + d + 1)).map _) = _ :: nx.flat (i + 1)
   rw [show i + d + 1 = i + 1 + d by omega,ih];rfl
 | cons c t ks nx ih1 ih2 =>
   intro i d
   show shift (-(d:Int)) ⟨c,t,true,⟨#[]⟩,ks.tops (i + d + 1)⟩ :: ((ks.flat (i + d + 1) ++ nx.flat (i + d + 1 + ks.cnt)).map _) = _ :: (ks.flat (i + 1) ++ nx.flat (i + 1 + ks.cnt))
   rw [List.map_append,show i + d + 1 + ks.cnt = i + 1 + ks.cnt + d by omega,show i + d + 1 = i + 1 + d by omega,ih1,ih2]
   congr 1
   unfold shift;have h9:=tops_shift ks (i + 1) d;simp only [Int.sub_eq_add_neg] at h9;rw [h9]
theorem flat_up (g:F) (n:Nat):(g.flat 0).map (shift (n:Int)) = g.flat n:=by
 have h:=flat_down g 0 n;rw [Nat.zero_add] at h;rw [<- h,List.map_map]
 conv => rhs; rw [<- List.map_id (g.flat n)]
 apply List.map_congr_left
 intro x _
 show shift (n:Int) (shift (-(n:Int)) x) = x
 unfold shift;obtain ⟨c,t,b,d,k⟩:=x;simp only;rw [List.map_map];have e:(fun x:Int => x + (n:Int)) ∘ (fun x:Int => x + -(n:Int)) = id:=by
   funext a
   show a + -(n:Int) + (n:Int) = a
   omega
 rw [e,List.map_id]
def subN (N:List Nd) (i e:Nat):List Nd:=((N.take e).drop i).map (shift (-(i:Int)))
theorem at_sub {N:List Nd} {i:Nat} {s:F} (h:At N i (s.flat i)):(N.take (i + s.cnt)).drop i = s.flat i:=by
 apply List.ext_getElem?
 intro j;rw [List.getElem?_drop,List.getElem?_take]
 by_cases hj:j < s.cnt
 · rw [if_pos (by omega),h j _ (List.getElem?_eq_getElem (by rw [F.flat_len]; exact hj))];exact (List.getElem?_eq_getElem _).symm
 · rw [if_neg (by omega),List.getElem?_eq_none (by rw [F.flat_len]; omega)]
theorem sub_flat {N:List Nd} {i:Nat} {s:F} (h:At N i (s.flat i)):subN N i (i + s.cnt) = s.flat 0:=by
 unfold subN;rw [at_sub h];have:=flat_down s 0 i;rw [Nat.zero_add] at this;exact this
theorem sub_at (R:Int -> ByteArray -> Bool) (g:F):∀ (i j:Nat),okF R g -> j < g.cnt -> ∃ s,single s /\ okF R s /\ (∀ N,At N i (g.flat i) -> At N (i + j) (s.flat (i + j))) /\ s.deep <= g.deep:=by
 induction g with
 | nil => intro i j _ h; exact absurd h (Nat.not_lt_zero _)
 | prim c t d nx ih =>
   intro i j hk h;have hc:(F.prim c t d nx).cnt = 1 + nx.cnt:=rfl;have hd:(F.prim c t d nx).deep = max 1 nx.deep:=rfl;obtain ⟨a1,a2,a3,a4⟩:=hk;cases j with
   | zero =>
     refine ⟨.prim c t d .nil,rfl,⟨a1,a2,a3,trivial⟩,fun N hN => ?_,by show max 1 0 <= _; omega⟩;exact At.cons hN.head (fun j x hx => by cases hx)
   | succ j =>
     obtain ⟨s,s1,s2,s3,s4⟩:=ih (i + 1) j a4 (by omega);refine ⟨s,s1,s2,fun N hN => ?_,by omega⟩;rw [show i + (j + 1) = i + 1 + j by omega];exact s3 N (At.tail hN)
 | cons c t ks nx ih1 ih2 =>
   intro i j hk h;have hc:(F.cons c t ks nx).cnt = 1 + ks.cnt + nx.cnt:=rfl;have hd:(F.cons c t ks nx).deep = max (ks.deep + 1) nx.deep:=rfl;obtain ⟨a1,a2,a3,a4,a5⟩:=hk;cases j with
   | zero =>
     refine ⟨.cons c t ks .nil,rfl,⟨a1,a2,a3,a4,trivial⟩,fun N hN => ?_,by show max (ks.deep + 1) 0 <= _; omega⟩;have h9:At N (i + 1) (ks.flat (i + 1) ++ nx.flat (i + 1 + ks.cnt)):=At.tail hN
     show At N (i + 0) (_ :: (ks.flat (i + 0 + 1) ++ []))
     rw [List.append_nil];exact At.cons hN.head h9.left
   | succ j =>
     by_cases hj:j < ks.cnt
     · obtain ⟨s,s1,s2,s3,s4⟩:=ih1 (i + 1) j a4 hj;refine ⟨s,s1,s2,fun N hN => ?_,by omega⟩;have h9:At N (i + 1) (ks.flat (i + 1) ++ nx.flat (i + 1 + ks.cnt)):=At.tail hN;rw [show i + (j + 1) = i + 1 + j by omega];exact s3 N h9.left
     · obtain ⟨s,s1,s2,s3,s4⟩:=ih2 (i + 1 + ks.cnt) (j - ks.cnt) a5 (by omega);refine ⟨s,s1,s2,fun N hN => ?_,by omega⟩;have h9:At N (i + 1) (ks.flat (i + 1) ++ nx.flat (i + 1 + ks.cnt)):=At.tail hN;have h8:=h9.right;rw [F.flat_len] at h8;rw [show i + (j + 1) = i + 1 + ks.cnt + (j - ks.cnt) by omega];exact s3 N h8
theorem beh_single {R:Int -> ByteArray -> Bool} {N:List Nd} {s:F} {i f:Nat} (h1:single s) (h2:okF R s) (h3:At N i (s.flat i)) (h4:s.deep <= f):behB R N f i = some (i + s.cnt):=by
 rw [beh_kids,<- single_tops h1 i];exact kids_of R N s f i h2 h3 h4
theorem sub_of {R:Int -> ByteArray -> Bool} {N:List Nd} {g:F} (h:IsT R N g) (i:Nat) (hi:i < N.length):∃ s,behB R N 16 i = some (i + s.cnt) /\ i + s.cnt <= N.length /\ IsT R (subN N i (i + s.cnt)) s /\ subN N i (i + s.cnt) = s.flat 0:=by
 obtain ⟨h1,h2,h3,h4,h5⟩:=h;have hc:i < g.cnt:=by rw [h3,F.flat_len] at hi; exact hi
 obtain ⟨s,s1,s2,s3,s4⟩:=sub_at R g 0 i h1 hc;have hA:At N 0 (g.flat 0):=fun j x hx => by rw [Nat.zero_add,h3]; exact hx
 have h9:=s3 N hA;rw [Nat.zero_add] at h9;have hb:=beh_single s1 s2 h9 (Nat.le_trans s4 h4);have hl:=(beh_le hb).2;refine ⟨s,hb,hl,⟨s2,s1,sub_flat h9,Nat.le_trans s4 h4, ?_⟩,sub_flat h9⟩;rw [sub_flat h9,F.flat_len];omega
def parts:F -> List F
 | .nil => []
 | .prim c t d nx => .prim c t d .nil :: parts nx
 | .cons c t ks nx => .cons c t ks .nil :: parts nx
def join:List F -> F
 | [] => .nil
 | g :: l => g.app (join l)
theorem join_parts (g:F):join (parts g) = g:=by
 induction g with
 | nil => rfl
 | prim c t d nx ih => show F.prim c t d (F.app .nil (join (parts nx))) = _; rw [ih]; rfl
 | cons c t ks nx _ ih => show F.cons c t ks (F.app .nil (join (parts nx))) = _; rw [ih]; rfl
theorem parts_len (g:F) (i:Nat):(parts g).length = (g.tops i).length:=by
 induction g generalizing i with
 | nil => rfl
 | prim c t d nx ih => show (parts nx).length + 1 = (nx.tops (i + 1)).length + 1; rw [ih]
 | cons c t ks nx _ ih => show (parts nx).length + 1 = (nx.tops (i + 1 + ks.cnt)).length + 1; rw [ih]
theorem parts_at (R:Int -> ByteArray -> Bool) (g:F):∀ (i j:Nat) (p:F),okF R g -> (parts g)[j]? = some p -> single p /\ okF R p /\ p.deep <= g.deep /\ ∃ a:Nat,(g.tops i)[j]? = some (a:Int) /\ ∀ N,At N i (g.flat i) -> At N a (p.flat a):=by
 induction g with
 | nil => intro i j p _ h; cases h
 | prim c t d nx ih =>
   intro i j p hk h;have hd:(F.prim c t d nx).deep = max 1 nx.deep:=rfl;obtain ⟨a1,a2,a3,a4⟩:=hk;cases j with
   | zero =>
     cases h;refine ⟨rfl,⟨a1,a2,a3,trivial⟩,by show max 1 0 <= _; omega,i,rfl,fun N hN => At.cons hN.head (fun j x hx => by cases hx)⟩
   | succ j =>
     obtain ⟨s1,s2,s3,a,s4,s5⟩:=ih (i + 1) j p a4 h;exact ⟨s1,s2,by omega,a,s4,fun N hN => s5 N (At.tail hN)⟩
 | cons c t ks nx _ ih =>
   intro i j p hk h;have hd:(F.cons c t ks nx).deep = max (ks.deep + 1) nx.deep:=rfl;obtain ⟨a1,a2,a3,a4,a5⟩:=hk;cases j with
   | zero =>
     cases h;refine ⟨rfl,⟨a1,a2,a3,a4,trivial⟩,by show max (ks.deep + 1) 0 <= _; omega,i,rfl,fun N hN => ?_⟩;have h9:At N (i + 1) (ks.flat (i + 1) ++ nx.flat (i + 1 + ks.cnt)):=At.tail hN
     show At N i (_ :: (ks.flat (i + 1) ++ []))
     rw [List.append_nil];exact At.cons hN.head h9.left
   | succ j =>
     obtain ⟨s1,s2,s3,a,s4,s5⟩:=ih (i + 1 + ks.cnt) j p a5 h;refine ⟨s1,s2,by omega,a,s4,fun N hN => ?_⟩;have h9:At N (i + 1) (ks.flat (i + 1) ++ nx.flat (i + 1 + ks.cnt)):=At.tail hN;have h8:=h9.right;rw [F.flat_len] at h8;exact s5 N h8
def stepN (E N:List Nd):List Nd:=if N.length = 0 then E else addK E 0 [(E.length:Int)] ++ N.map (shift (E.length:Int))
def ofN (c t:Int) (Ns:List (List Nd)):List Nd:=Ns.foldl stepN [⟨c,t,true,⟨#[]⟩,[]⟩]
theorem single_cnt {g:F} (h:single g):0 < g.cnt:=by
 cases g with
 | nil => exact absurd h (by intro h; exact h)
 | prim _ _ _ _ => show 0 < 1 + _; omega
 | cons _ _ _ _ => show 0 < 1 + _ + _; omega
theorem step_flat (c t:Nat) (ks g:F) (hg:single g):stepN ((F.cons c t ks .nil).flat 0) (g.flat 0) = (F.cons c t (ks.app g) .nil).flat 0:=by
 have e0:∀ f:F,(F.cons c t f .nil).flat 0 = ⟨c,t,true,⟨#[]⟩,f.tops 1⟩ :: f.flat 1:=fun f => by
   show (⟨(c:Int),(t:Int),true,⟨#[]⟩,f.tops 1⟩:Nd) :: (f.flat 1 ++ []) = _
   rw [List.append_nil]
 unfold stepN;rw [if_neg (by rw [F.flat_len]; have:=single_cnt hg; omega),flat_up,e0,e0];rw [List.length_cons,F.flat_len,F.tops_app,F.flat_app,single_tops hg]
 show (⟨(c:Int),(t:Int),true,⟨#[]⟩,ks.tops 1 ++ [((ks.cnt + 1:Nat):Int)]⟩:Nd) :: (ks.flat 1 ++ g.flat (ks.cnt + 1)) = _
 rw [show ks.cnt + 1 = 1 + ks.cnt by omega]
theorem of_flat (c t:Nat) (gs:List F):∀ (ks:F),(∀ g ∈ gs,single g) -> (gs.map (fun g => g.flat 0)).foldl stepN ((F.cons c t ks .nil).flat 0) = (F.cons c t (ks.app (join gs)) .nil).flat 0:=by
 induction gs with
 | nil =>
   intro ks _
   show _ = (F.cons c t (ks.app .nil) .nil).flat 0
   rw [F.app_nil];rfl
 | cons g gs ih =>
   intro ks h
   show List.foldl stepN (stepN ((F.cons c t ks .nil).flat 0) (g.flat 0)) (gs.map _) = (F.cons c t (ks.app (g.app (join gs))) .nil).flat 0
   rw [step_flat c t ks g (h g (by simp)),ih _ (fun x hx => h x (by simp [hx])),F.app_assoc]
theorem ofN_flat (c t:Nat) (gs:List F) (h:∀ g ∈ gs,single g):ofN (c:Int) (t:Int) (gs.map (fun g => g.flat 0)) = (F.cons c t (join gs) .nil).flat 0:=of_flat c t gs .nil h
theorem fair_of {N:List Nd} {g:F} {R:Int -> ByteArray -> Bool} (h:IsT R N g):Fair N:=by
 have hw:=wr_of h;have hl:=h.len;have key:∀ x ∈ N,∀ a ∈ x.k,0 <= a /\ a < (N.length:Int):=fun x hx a ha => by
   obtain ⟨j,hj⟩:=List.mem_iff_getElem?.1 hx;have:=(hw.body j x hj).2 a ha;omega
 refine ⟨hl,fun x hx => ?_,fun x hx a ha => by have:=key x hx a ha; omega⟩;obtain ⟨h1,h2,h3,h4,h5⟩:=h;have hkl:∀ (g:F) (i:Nat),(g.tops i).length <= g.cnt:=by
   intro g
   induction g with
   | nil => intro i; exact Nat.le_refl _
   | prim c t d nx ih => intro i; show (nx.tops (i + 1)).length + 1 <= 1 + nx.cnt; have:=ih (i + 1); omega
   | cons c t ks nx _ ih => intro i; show (nx.tops (i + 1 + ks.cnt)).length + 1 <= 1 + ks.cnt + nx.cnt; have:=ih (i + 1 + ks.cnt); omega
 have hall:∀ (g:F) (i:Nat),∀ x ∈ g.flat i,x.k.length <= g.cnt:=by
   intro g
   induction g with
   | nil => intro i x h; cases h
   | prim c t d nx ih =>
     intro i x h
     show _ <= 1 + nx.cnt
     rcases List.mem_cons.1 (show x ∈ (⟨c,t,false,d,[]⟩:Nd) :: nx.flat (i + 1) from h) with rfl | h
     · exact Nat.zero_le _
     · have:=ih _ x h; omega
   | cons c t ks nx ih1 ih2 =>
     intro i x h
     show _ <= 1 + ks.cnt + nx.cnt
     rcases List.mem_cons.1 (show x ∈ (⟨c,t,true,⟨#[]⟩,ks.tops (i + 1)⟩:Nd) :: (ks.flat (i + 1) ++ nx.flat (i + 1 + ks.cnt)) from h) with rfl | h
     · have:=hkl ks (i + 1)
       show (ks.tops (i + 1)).length <= _
       omega
     · rcases List.mem_append.1 h with h | h
       · have:=ih1 _ x h; omega
       · have:=ih2 _ x h; omega
 rw [h3] at hx hl;have:=hall g 0 x hx;rw [F.flat_len] at hl;omega
end Tree
end Go.Proofs.YtpanhhjkecebkaaGreat
namespace Go.Proofs.YtpanhhjkecebkaaGreat
namespace Tlv
theorem look_err {R:Int -> ByteArray -> Bool} {s:ByteArray} {p e deep cnt c:Nat} (h:look R s p e deep cnt = .error c):c ≠ 0:=by
 unfold look at h;obtain ⟨hh,k,x,hq⟩:∃ hh k x,Head.dec (s.extract p e).data.toList = (hh,k,x):=⟨_,_,_,rfl⟩
 rw [hq] at h;dsimp only at h
 by_cases hx:x ≠ 0
 · rw [if_pos hx] at h; cases h; exact hx
 rw [if_neg hx] at h
 split at h
 · cases h; decide
 split at h
 · cases h; decide
 split at h
 · cases h; decide
 split at h
 · cases h
 · cases h; decide
theorem dec_err {R:Int -> ByteArray -> Bool} {s:ByteArray}:∀ (f p e deep cnt c q:Nat),p <= s.size -> e <= s.size -> dec R s f p e deep cnt = .error (c,q) -> c ≠ 0 /\ q <= s.size:=by
 intro f
 induction f with
 | zero => intro p e deep cnt c q hp _ h; cases h; exact ⟨by decide,hp⟩
 | succ f ih =>
   intro p e deep cnt c q hp he h;unfold dec at h
   by_cases hpe:e <= p
   · rw [if_pos hpe] at h; cases h
   rw [if_neg hpe] at h;cases hl:look R s p e deep cnt with
   | error c' => rw [hl] at h; cases h; exact ⟨look_err hl,hp⟩
   | ok x =>
     obtain ⟨hh,k⟩:=x;have lk:=look_ok hl;have l1:=lk.fit;rw [hl] at h;dsimp only at h
     split at h
     · cases h1:dec R s f (p + k) (p + k + hh.n) (deep + 1) (cnt + 1) with
       | error y => rw [h1] at h; cases h; exact ih _ _ _ _ _ _ (by omega) (by omega) h1
       | ok ks =>
         rw [h1] at h;dsimp only at h;cases h2:dec R s f (p + k + hh.n) e deep (cnt + 1 + ks.cnt) with
         | error y => rw [h2] at h; cases h; exact ih _ _ _ _ _ _ (by omega) he h2
         | ok nx => rw [h2] at h; cases h
     · cases h2:dec R s f (p + k + hh.n) e deep (cnt + 1) with
       | error y => rw [h2] at h; cases h; exact ih _ _ _ _ _ _ (by omega) he h2
       | ok nx => rw [h2] at h; cases h
theorem top_err_ok {R:Int -> ByteArray -> Bool} {s:ByteArray} {c p:Nat} (h:top R s = .error (c,p)):c ≠ 0 /\ p <= s.size:=by
 unfold top at h
 split at h
 · cases h; exact ⟨by decide,Nat.zero_le _⟩
 split at h
 · cases h; exact ⟨by decide,Nat.zero_le _⟩
 unfold one at h;cases hl:look R s 0 s.size 1 0 with
 | error c' => rw [hl] at h; cases h; exact ⟨look_err hl,Nat.zero_le _⟩
 | ok x =>
   obtain ⟨hh,k⟩:=x;have lk:=look_ok hl;have l1:=lk.fit;rw [hl] at h;dsimp only at h;cases hb:hh.b with
   | true =>
     rw [hb] at h;simp only [if_true] at h;cases h1:decA R s (0 + k) (0 + k + hh.n) (1 + 1) (0 + 1) with
     | error y => rw [h1] at h; cases h; exact dec_err _ _ _ _ _ _ _ (by omega) (by omega) h1
     | ok ks =>
       rw [h1] at h;dsimp only at h
       split at h
       · cases h; exact ⟨by decide,by omega⟩
       · cases h
   | false =>
     rw [hb] at h;simp only [Bool.false_eq_true,if_false] at h
     split at h
     · cases h; exact ⟨by decide,by omega⟩
     · cases h
theorem top_some {R:Int -> ByteArray -> Bool} {s:ByteArray} {g:F} (h:top R s = .ok g):0 < s.size /\ s.size <= 65535:=by
 unfold top at h
 split at h
 · cases h
 split at h
 · cases h
 omega
end Tlv
end Go.Proofs.YtpanhhjkecebkaaGreat
