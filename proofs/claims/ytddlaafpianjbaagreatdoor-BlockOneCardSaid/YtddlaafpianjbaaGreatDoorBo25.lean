import Derived.Test.YtddlaafpianjbaaGreatDoorBo6
import Derived.Test.YtddlaafpianjbaaGreatDoorBo22
import Derived.Test.YtddlaafpianjbaaGreatDoorBo20
import Derived.Deep.RegionHeld3
set_option maxRecDepth 100000
namespace Go.Proofs.YtddlaafpianjbaaGreatDoor
open Go.RowKit
namespace Sched
open Rnd
theorem rounds_yes (m:Nat) (hm:m = 16 ∨ m = 24 ∨ m = 32) (x:Int) (hx:x = ((m / 4 + 6:Nat):Int)):Ret 23 #[.int .i64 (m:Int)] (.int .i64 x):=by
 intro w
 subst hx
 rcases hm with rfl | rfl | rfl
 all_goals
   go_enter Tryz.func23,Tryz.ntmps23
   go_wp2_with fail
   go_ret
   exact ⟨rfl,rfl⟩
theorem rounds_no (n:Int) (h:n ≠ 16 /\ n ≠ 24 /\ n ≠ 32):Ret 23 #[.int .i64 n] (.int .i64 0):=by
 intro w
 obtain ⟨h1,h2,h3⟩:=h
 have n1:(n == 16) = false:=beq_eq_false_iff_ne.2 h1
 have n2:(n == 24) = false:=beq_eq_false_iff_ne.2 h2
 have n3:(n == 32) = false:=beq_eq_false_iff_ne.2 h3
 clear h1 h2 h3
 go_enter Tryz.func23,Tryz.ntmps23
 go_wp2_with fail
 go_ret
 exact ⟨rfl,rfl⟩
def conN (i:Int):Nat:=if 1 <= i /\ i <= 255 then Gf.pow 2 (i - 1).toNat else 0
theorem conN_lt (i:Int):conN i < 256:=by unfold conN; split; exact Gf.pow_lt _ _; decide
theorem pow_p (a:Nat) (n:Int) (w:World) (ha:a <= 255) (hn:n <= 9223372036854775807):Calls Tryz.prog 257 #[.int .u8 (a:Int),.int .i64 n] w fun e w' => e = .returned (.int .u8 ((Gf.pow a n.toNat:Nat):Int)) /\ w = w':=by
 have h:=Field.pow_any (a:Int) n w (by omega) (by omega) hn
 simpa using h
theorem pow2p (a:Nat) (i:Int) (w:World) (ha:a <= 255) (hi:i <= 254):Calls Tryz.prog 257 #[.int .u8 (a:Int),.int .i64 i] w fun e w' => e = .returned (.int .u8 ((Gf.pow a i.toNat:Nat):Int)) /\ w = w':=pow_p a i w ha (by omega)
theorem const_any (i:Int) (c:Nat) (hc:c = conN i):Ret 255 #[.int .i64 i] (.int .u8 (c:Int)):=by
 intro w
 by_cases h:1 <= i /\ i <= 255
 · obtain ⟨h1,h2⟩:=h
   have c1:Ret 257 #[.int .u8 2,.int .i64 (i - 1)] (.int .u8 (c:Int)):=fun w => by
     rw [hc,conN,if_pos ⟨h1,h2⟩]
     exact pow2p 2 (i - 1) w (by decide) (by omega)
   clear hc
   go_enter Tryz.func255,Tryz.ntmps255
   go_wp2_with fail
   refine (c1).calls ?_
   go_wp2_with fail
   go_ret
   exact ⟨rfl,rfl⟩
 · have hc0:c = 0:=by rw [hc,conN,if_neg h]
   subst hc0
   clear hc
   by_cases h1:i < 1
   · clear h
     go_enter Tryz.func255,Tryz.ntmps255
     go_wp2_with fail
     go_ret
     exact ⟨rfl,rfl⟩
   · have h2:255 < i:=by omega
     clear h
     go_enter Tryz.func255,Tryz.ntmps255
     go_wp2_with fail
     go_ret
     exact ⟨rfl,rfl⟩
def xorS (a b:ByteArray):ByteArray:=strOfNums ((List.range (min a.size b.size)).map (Oct.xorV a.data.toList b.data.toList))
theorem xorS_size (a b:ByteArray):(xorS a b).size = min a.size b.size:=by unfold xorS; rw [strOfNums_size]; simp
theorem xor_m (a b:ByteArray) (ha:a.size <= 140737488355328) (hb:b.size <= 140737488355328) (X:ByteArray) (hX:X = xorS a b):Mak 105 #[.string a,.string b] (.string X):=fun w => by
 rw [hX]; exact Oct.xor_any a b w _ rfl ha hb
theorem put1 (c:Nat) (h:c < 256):strOfNums (Oct.putL (c:Int) 1) = bs [UInt8.ofNat c]:=by
 rw [RefOct.put_same _ 1 (by decide)]
 show bs [UInt8.ofNat ((c:Int) / 2 ^ (8 * 0) % 256).toNat] = _
 have e:((c:Int) / 2 ^ (8 * 0) % 256).toNat = c:=by simp; omega
 rw [e]
def rot (l:List UInt8):List UInt8:=(l.drop 1).take 3 ++ l.take 1
def trans (t:ByteArray) (i n:Nat):ByteArray :=
 if i % n = 0 then xorS (bs (subL (rot t.data.toList))) (bs [UInt8.ofNat (conN ((i / n:Nat):Int)),0,0,0]) else if n = 8 /\ i % 8 = 4 then bs (subL t.data.toList) else t
theorem trans_size (t:ByteArray) (i n:Nat) (ht:t.size = 4):(trans t i n).size = 4:=by
 have hl:t.data.toList.length = 4:=ht
 unfold trans
 split
 · rw [xorS_size,size_bs,size_bs,subL_len,rot]; simp [hl]
 · split
   · rw [size_bs,subL_len,hl]
   · exact ht
set_option maxHeartbeats 2000000 in
theorem tr_mak (t:ByteArray) (ht:t.size = 4) (i n:Nat) (hn:n = 4 ∨ n = 6 ∨ n = 8) (hi:n <= i) (hi2:i <= 60) (X:ByteArray) (hX:X = trans t i n):Mak 237 #[.string t,.int .i64 (i:Int),.int .i64 (n:Int)] (.string X):=by
 intro w
 have hl:t.data.toList.length = 4:=ht
 have H0:=lH (Since.refl w)
 have hnp:0 < n:=by omega
 have hti:(t.size:Int) = 4:=by omega
 have em:(i:Int) % (n:Int) = ((i % n:Nat):Int):=by simp
 by_cases h:i % n = 0
 · have e1:(i:Int) % (n:Int) = 0:=by omega
   obtain ⟨q,hq⟩:∃ q,q = i / n:=⟨_,rfl⟩
   have e2:(i:Int) / (n:Int) = (q:Int):=by rw [hq]; simp
   have hq60:q <= 60:=by rw [hq]; exact Nat.le_trans (Nat.div_le_self _ _) hi2
   have c1:Ret 106 #[.string t,.int .i64 1,.int .i64 3] (.string (bs ((t.data.toList.drop 1).take 3))):=fun w => Oct.cut_yes t 1 3 w (by omega) (by decide) (by omega) (by decide)
   have c2:Ret 106 #[.string t,.int .i64 0,.int .i64 1] (.string (bs ((t.data.toList.drop 0).take 1))):=fun w => Oct.cut_yes t 0 1 w (by omega) (by decide) (by omega) (by decide)
   obtain ⟨A,hA⟩:∃ A,A = bs ((t.data.toList.drop 1).take 3):=⟨_,rfl⟩
   obtain ⟨B,hB⟩:∃ B,B = bs ((t.data.toList.drop 0).take 1):=⟨_,rfl⟩
   rw [<- hA] at c1
   rw [<- hB] at c2
   obtain ⟨J,hJ⟩:∃ J,J = bs (rot t.data.toList):=⟨_,rfl⟩
   have hJc:J = bs (Oct.cat [A,B]):=by rw [hJ,hA,hB,Oct.cat_two,list_bs,list_bs,List.drop_zero]; rfl
   have hJs:J.size = 4:=by rw [hJ,size_bs,rot]; simp [hl]
   obtain ⟨c,hc⟩:∃ c,c = conN ((q:Nat):Int):=⟨_,rfl⟩
   have hc256:c < 256:=by rw [hc]; exact conN_lt _
   have c3:=const_any (q:Int) c hc
   have c4:Mak 57 #[.int .u64 (c:Int),.int .i64 1] (.string (bs [UInt8.ofNat c])):=fun w => by
     have h:=Oct.put_mid (c:Int) 1 w (by omega) (by omega) (by decide) (by decide)
     rwa [put1 c hc256] at h
   have c5:Mak 188 #[.string (bs [UInt8.ofNat c]),.int .i64 4] (.string (bs [UInt8.ofNat c,0,0,0])):=fun w => Oct.pad_odd (bs [UInt8.ofNat c]) 4 1 w (by rw [size_bs]; simp) (by decide) (by decide) rfl (by decide)
   have c6:=subs_m J (by omega) (bs (subL (rot t.data.toList))) (by rw [hJ,list_bs])
   have c7:=xor_m (bs (subL (rot t.data.toList))) (bs [UInt8.ofNat c,0,0,0]) (by rw [size_bs,subL_len,rot]; simp [hl]) (by rw [size_bs]; simp) X (by
     rw [hX]; unfold trans; rw [if_pos h,hc,hq])
   generalize bs (subL (rot t.data.toList)) = S at c6 c7
   generalize bs [UInt8.ofNat c,0,0,0] = P at c5 c7
   generalize bs [UInt8.ofNat c] = Q at c4 c5
   have c8:=fun W => Oct.join_lit W [A,B] 2 rfl #[.string A,.string B] rfl J hJc (by omega) (by decide)
   have HC8:=lH c8
   clear c8 hA hB hJ hJc hc hq hX h em hJs
   go_enter Tryz.func237,Tryz.ntmps237
   go_wp2_with fail
   refine (c1).calls ?_
   go_wp2_with fail
   refine (c2).calls ?_
   go_wp2_with fail
   refine (HC8.out w).mono ?_
   rintro e w1 ⟨rfl,h1⟩
   have H1:=lH (Since.step H0.out h1)
   clear h1
   go_wp2_with fail
   refine (c3).calls ?_
   go_wp2_with fail
   refine c4.calls H1.out ?_
   intro w2 h2
   have H2:=lH h2
   clear h2
   go_wp2_with fail
   refine c6.calls H2.out ?_
   intro w3 h3
   have H3:=lH h3
   clear h3
   go_wp2_with fail
   refine c5.calls H3.out ?_
   intro w4 h4
   have H4:=lH h4
   clear h4
   go_wp2_with fail
   refine c7.calls H4.out ?_
   intro w5 h5
   have H5:=lH h5
   clear h5
   go_wp2_with fail
   go_ret
   exact ⟨rfl,H5.out⟩
 · have e1:((i:Int) % (n:Int) == 0) = false:=by rw [em,beq_eq_false_iff_ne]; omega
   by_cases h8:n = 8 /\ i % 8 = 4
   · obtain ⟨rfl,h4⟩:=h8
     have e2:(i:Int) % 8 = 4:=by omega
     have c6:=subs_m t (by omega) X (by rw [hX]; unfold trans; rw [if_neg h,if_pos ⟨rfl,h4⟩])
     clear h hX em h4
     go_enter Tryz.func237,Tryz.ntmps237
     go_wp2_with fail
     refine c6.calls H0.out ?_
     intro w2 h2
     have H2:=lH h2
     clear h2
     go_wp2_with fail
     go_ret
     exact ⟨rfl,H2.out⟩
   · have hXt:X = t:=by rw [hX]; unfold trans; rw [if_neg h,if_neg h8]
     subst hXt
     by_cases hn8:n = 8
     · subst hn8
       have e2:((i:Int) % 8 == 4) = false:=by rw [beq_eq_false_iff_ne]; omega
       clear h hX h8 em
       go_enter Tryz.func237,Tryz.ntmps237
       go_wp2_with fail
       go_ret
       exact ⟨rfl,H0.out⟩
     · have e2:((n:Int) == 8) = false:=by rw [beq_eq_false_iff_ne]; omega
       clear h hX h8 em
       go_enter Tryz.func237,Tryz.ntmps237
       go_wp2_with fail
       go_ret
       exact ⟨rfl,H0.out⟩
def word (ss:List ByteArray) (i n:Nat):ByteArray:=xorS (ss.getD (i - n) ⟨#[]⟩) (trans (ss.getD (i - 1) ⟨#[]⟩) i n)
def grow (ss:List ByteArray) (n:Nat):Nat -> List ByteArray
 | 0 => ss
 | k + 1 => grow ss n k ++ [word (grow ss n k) (n + k) n]
theorem grow_len (ss:List ByteArray) (n k:Nat):(grow ss n k).length = ss.length + k:=by
 induction k with
 | zero => rfl
 | succ k ih => simp [grow,ih]; omega
theorem grow_size (ss:List ByteArray) (n k:Nat) (hn:1 <= n) (hl:ss.length = n) (h:∀ x ∈ ss,x.size = 4):∀ x ∈ grow ss n k,x.size = 4:=by
 induction k with
 | zero => exact h
 | succ k ih =>
   intro x hx
   simp only [grow,List.mem_append,List.mem_singleton] at hx
   rcases hx with hx | rfl
   · exact ih x hx
   · have hlen:=grow_len ss n k
     have e1:(grow ss n k).getD (n + k - n) ⟨#[]⟩ ∈ grow ss n k:=by
       rw [List.getD,List.getElem?_eq_getElem (by omega)]; exact List.getElem_mem _
     have e2:(grow ss n k).getD (n + k - 1) ⟨#[]⟩ ∈ grow ss n k:=by
       rw [List.getD,List.getElem?_eq_getElem (by omega)]; exact List.getElem_mem _
     unfold word
     rw [xorS_size,ih _ e1,trans_size _ _ _ (ih _ e2)]
     rfl
def first (l:List UInt8) (n:Nat):List ByteArray:=Oct.pcs l 4 n
theorem first_size (l:List UInt8) (n:Nat) (hl:l.length = 4 * n):∀ x ∈ first l n,x.size = 4:=by
 intro x hx
 unfold first Oct.pcs at hx
 obtain ⟨i,hi,rfl⟩:=List.mem_map.1 hx
 rw [List.mem_range] at hi
 unfold Oct.pc
 rw [size_bs,List.length_take,List.length_drop]
 omega
def wordsL (l:List UInt8) (n:Nat):List ByteArray:=grow (first l n) n (3 * n + 28)
theorem wordsL_len (l:List UInt8) (n:Nat):(wordsL l n).length = 4 * n + 28:=by
 unfold wordsL; rw [grow_len,first,Oct.pcs_len]; omega
structure PK (w0:World) (v:Value) (ss:List ByteArray) (W:World):Prop where
 since:Since w0 W
 own:Strs W w0.heap.size v ss
theorem Strs.below {W W':World} {b:Nat} {v:Value} {ss:List ByteArray} (h:Strs W b v ss) (hb:Below W.heap.size W W'):Strs W' b v ss:=by
 obtain ⟨h1,h2⟩:=h
 refine ⟨h1, ?_⟩
 rcases h2 with h2 | ⟨g,cap,cur,rfl,hg0,hg,hn,hm,hsz,htk⟩
 · exact Or.inl h2
 · exact Or.inr ⟨g,cap,cur,rfl,hg0,(hb.block g (Array.getElem?_eq_some_iff.1 hg).1).trans hg,hn,hm,hsz,htk⟩
theorem pkstep {w0 W W':World} {v:Value} {ss:List ByteArray} (hb:Below W.heap.size W W') (h:Hid (PK w0 v ss W)):Hid (PK w0 v ss W'):=lH ⟨h.out.since.step hb,Strs.below h.out.own hb⟩
theorem pkdrew {w0 W:World} {v:Value} {ss:List ByteArray} (h:Hid (PK w0 v ss W)):Hid (PK w0 v ss W.drew):=pkstep (Below.drew (Below.refl _ _)) h
theorem pkalloc {w0 W:World} {v:Value} {ss:List ByteArray} (o:Obj) (h:Hid (PK w0 v ss W)):Hid (PK w0 v ss (W.alloc o)):=pkstep (Below.alloc (Below.refl _ _) (Nat.le_refl _) o) h
theorem pkcell {w0 W:World} {g n cap:Nat} {ss:List ByteArray} (h:Hid (PK w0 (.slice (some ⟨g,0,none⟩) n cap) ss W)) (i:Nat) (hi:i < ss.length):W.cell? ⟨g,i,none⟩ = some (.string (ss.getD i ⟨#[]⟩)):=by
 have h1:=h.out.own
 have hn:n = ss.length:=by
   obtain ⟨_,h2⟩:=h1
   rcases h2 with ⟨h2,h3⟩ | ⟨_,_,_,h2,_⟩
   · cases h2
   · cases h2; rfl
 subst hn
 have h2:=World.ownsRow.cellAt h1 i (by omega)
 rw [h2]
 simp [List.getD,hi]
end Sched
namespace Sched
open Rnd
theorem Strs.form {w:World} {b:Nat} {v:Value} {ss:List ByteArray} (h:Strs w b v ss) (hn:0 < ss.length):∃ g cap,v = .slice (some ⟨g,0,none⟩) ss.length cap:=by
 obtain ⟨_,h2⟩:=h
 rcases h2 with ⟨_,h3⟩ | ⟨g,cap,_,h3,_⟩
 · omega
 · exact ⟨g,cap,h3⟩
theorem pkown {w0 W:World} {v:Value} {ss:List ByteArray} {j:Nat} (h:Hid (PK w0 v ss W)) (hj:ss.length = j):W.ownsRow w0.heap.size 9 1 v j (ss.map Value.string):=by
 subst hj; exact h.out.own
theorem pksince {w0 W:World} {v:Value} {ss:List ByteArray} (h:Hid (PK w0 v ss W)):Since w0 W:=h.out.since
set_option maxHeartbeats 4000000 in
theorem words_mak (key:ByteArray) (n:Nat) (hn:n = 4 ∨ n = 6 ∨ n = 8) (hk:key.size = 4 * n):MakS 217 #[.string key] (wordsL key.data.toList n):=by
 intro w
 have hl:key.data.toList.length = 4 * n:=hk
 have c1:Ret 23 #[.int .i64 (key.size:Int)] (.int .i64 ((n:Int) + 6)):=by
   rw [hk]; exact rounds_yes (4 * n) (by omega) _ (by omega)
 have c2:MakS 216 #[.string key,.int .i64 4] (first key.data.toList n):=Oct.pieces_mak key 4 (by decide) (by decide) (by omega) _ (by
   unfold first; rw [hk,show (4 * n + 4 - 1) / 4 = n from by omega])
 obtain ⟨fs,hfs⟩:∃ fs,fs = first key.data.toList n:=⟨_,rfl⟩
 have hfl:fs.length = n:=by rw [hfs]; unfold first; rw [Oct.pcs_len]
 have hf4:∀ x ∈ fs,x.size = 4:=by rw [hfs]; exact first_size _ n hl
 have hwl:wordsL key.data.toList n = grow fs n (3 * n + 28):=by rw [hfs]; rfl
 rw [<- hfs] at c2
 rw [hwl]
 have hn1:4 <= n /\ n <= 8:=by omega
 obtain ⟨hn4,hn8⟩:=hn1
 have hb0:(((n:Int) + 6) == 0) = false:=by rw [beq_eq_false_iff_ne]; omega
 have HN:=lH hn
 clear hwl hfs hl hk hn
 have Hfl:=lH hfl
 clear hfl
 have Hf4:=lH hf4
 clear hf4
 go_enter Tryz.func217,Tryz.ntmps217
 go_wp2_with fail
 refine (c1).calls ?_
 go_wp2_with fail
 refine (c2 w).mono ?_
 rintro e w1 ⟨v,rfl,ho,hb⟩
 have HP0:Hid (PK w v fs w1):=lH ⟨hb,ho⟩
 obtain ⟨g,cap,hv⟩:=Strs.form ho (by rw [Hfl.out]; omega)
 rw [Hfl.out] at hv
 subst hv
 clear ho hb
 go_wp2_with fail
 go_loopw [4,6] (fun v i wr => ∃ k j:Nat,k <= 3 * n + 28 /\ j <= 60 /\ Hid (j = n + k) /\ i = .int .i64 (j:Int) /\ Hid (PK w v (grow fs n k) wr)) (fun _ i _ => 60 - (intOf i).toNat)
 case atStart => exact ⟨0,n,by omega,by omega,lH rfl,rfl,HP0⟩
 case round =>
   clear HP0
   obtain ⟨k,j,hk,hj60,HJ,rfl,HP⟩:=hrel
   have hjk:=HJ.out
   by_cases hlt:k < 3 * n + 28
   · obtain ⟨ss,hss⟩:∃ ss,ss = grow fs n k:=⟨_,rfl⟩
     have hsl:ss.length = j:=by rw [hss,grow_len,Hfl.out]; omega
     have hs4:∀ x ∈ ss,x.size = 4:=by rw [hss]; exact grow_size fs n k (by omega) Hfl.out Hf4.out
     rw [<- hss] at HP
     obtain ⟨g2,cap2,hv⟩:=Strs.form HP.out.own (by omega)
     rw [hsl] at hv
     subst hv
     obtain ⟨m,hm⟩:∃ m,m = j - 1:=⟨_,rfl⟩
     obtain ⟨A,hA⟩:∃ A,A = ss.getD k ⟨#[]⟩:=⟨_,rfl⟩
     obtain ⟨B,hB⟩:∃ B,B = ss.getD m ⟨#[]⟩:=⟨_,rfl⟩
     have hA4:A.size = 4:=hs4 A (by rw [hA,List.getD,List.getElem?_eq_getElem (show k < ss.length by omega)]; exact List.getElem_mem _)
     have hB4:B.size = 4:=hs4 B (by rw [hB,List.getD,List.getElem?_eq_getElem (show m < ss.length by omega)]; exact List.getElem_mem _)
     have a1:∀ W,Hid (PK w (.slice (some ⟨g2,0,none⟩) j cap2) ss W) -> W.cell? ⟨g2,k,none⟩ = some (.string A):=fun W h => by rw [hA]; exact pkcell h k (by omega)
     have a2:∀ W,Hid (PK w (.slice (some ⟨g2,0,none⟩) j cap2) ss W) -> W.cell? ⟨g2,m,none⟩ = some (.string B):=fun W h => by rw [hB]; exact pkcell h m (by omega)
     obtain ⟨T,hT⟩:∃ T,T = trans B j n:=⟨_,rfl⟩
     have hT4:T.size = 4:=by rw [hT]; exact trans_size _ _ _ hB4
     have c3:=tr_mak B hB4 j n HN.out (by omega) hj60 T hT
     obtain ⟨Y,hY⟩:∃ Y,Y = xorS A T:=⟨_,rfl⟩
     have c4:=xor_m A T (by omega) (by omega) Y hY
     have hgr:grow fs n (k + 1) = ss ++ [Y]:=by
       rw [hY,hT,hA,hB,hss]
       show _ ++ [word _ _ _] = _
       unfold word
       rw [show n + k - n = k from by omega,hm,hjk]
     have e1:IntKind.i64.wrap ((j:Int) - (n:Int)) = (k:Int):=by rw [IntWalk.i64_in _ (by omega)]; omega
     have e2:IntKind.i64.wrap ((j:Int) - 1) = (m:Int):=by rw [IntWalk.i64_in _ (by omega)]; omega
     have k0:=a1 wr HP
     have m0:=a2 wr HP
     have A1:=lH a1
     have A2:=lH a2
     have i1:(0:Int) <= (k:Int):=by omega
     have i2:(k:Int) < (j:Int):=by omega
     have i3:(0:Int) <= (m:Int):=by omega
     have i4:(m:Int) < (j:Int):=by omega
     have i5:(j:Int) < 4 * ((n:Int) + 6) + 4:=by omega
     clear a1 a2 hY hT hA hB hss hs4 hm hjk
     have Hgr:=lH hgr
     clear hgr
     have Hsl:=lH hsl
     clear hsl
     go_wp2_with fail
     go_region_law (first
       | (refine step_one elemS rfl _ _ (by rfl) w _ (.slice (some ⟨g2,0,none⟩) j cap2) j (ss.map Value.string) (by rfl) (pkown (by first | assumption | exact pkdrew (by assumption) | exact pkalloc _ (by assumption) | exact pkdrew (pkalloc _ (by assumption)) | exact pkalloc _ (pkdrew (by assumption))) Hsl.out) (pksince (v:=.slice (some ⟨g2,0,none⟩) j cap2) (ss:=ss) (by first | assumption | exact pkdrew (by assumption) | exact pkalloc _ (by assumption) | exact pkdrew (pkalloc _ (by assumption)) | exact pkalloc _ (pkdrew (by assumption)))) _ (.string Y) (by rfl) (by simp [go_sem]) rfl (by omega) (by decide) ?_; intro v7 w7 hown7 hS7)
       | (go_simp; go_at_call 237; refine (c3 _).mono ?_; rintro e w5 ⟨rfl,h5⟩; have hp5:=pkstep h5 (by first | assumption | exact pkdrew (by assumption) | exact pkalloc _ (by assumption) | exact pkdrew (pkalloc _ (by assumption)) | exact pkalloc _ (pkdrew (by assumption))); have k5:=A1.out _ hp5; clear h5)
       | (go_simp; go_at_call 105; refine (c4 _).mono ?_; rintro e w6 ⟨rfl,h6⟩; have hp6:=pkstep h6 (by first | assumption | exact pkdrew (by assumption) | exact pkalloc _ (by assumption) | exact pkdrew (pkalloc _ (by assumption)) | exact pkalloc _ (pkdrew (by assumption))); clear h6))
     all_goals
       go_wp2_with fail
       go_roundw
       case rel => exact ⟨k + 1,j + 1,by omega,by have:=HJ.out; omega,lH (by have:=HJ.out; omega),by go_num,lH ⟨by first | exact hS7 | exact Since.drew hS7,by rw [Hgr.out]; unfold Strs; rw [List.length_append,List.map_append,Hsl.out]; exact hown7⟩⟩
       case measure => simp [intOf]; omega
   · obtain rfl:k = 3 * n + 28:=by omega
     have i5:¬ (j:Int) < 4 * ((n:Int) + 6) + 4:=by omega
     clear hjk
     go_wp2_with fail
     go_ret
     exact ⟨_,rfl,HP.out.own,HP.out.since⟩
end Sched
namespace Sched
open Rnd
theorem cat_cons (s:ByteArray) (ss:List ByteArray):Oct.cat (s :: ss) = s.data.toList ++ Oct.cat ss:=rfl
theorem cat_len4 (ss:List ByteArray) (h:∀ x ∈ ss,x.size = 4):(Oct.cat ss).length = 4 * ss.length:=by
 induction ss with
 | nil => rfl
 | cons s ss ih =>
   rw [cat_cons,List.length_append,ih (fun x hx => h x (by simp [hx])),List.length_cons]
   have h1:s.data.toList.length = 4:=h s (by simp)
   omega
theorem cat_drop4 (ss:List ByteArray) (h:∀ x ∈ ss,x.size = 4) (k:Nat):(Oct.cat ss).drop (4 * k) = Oct.cat (ss.drop k):=by
 induction k generalizing ss with
 | zero => simp
 | succ k ih =>
   cases ss with
   | nil => simp [Oct.cat]
   | cons s ss =>
     have h1:s.data.toList.length = 4:=h s (by simp)
     rw [cat_cons,List.drop_succ_cons,<- ih ss (fun x hx => h x (by simp [hx])),show 4 * (k + 1) = s.data.toList.length + 4 * k from by omega,List.drop_append]
     simp
theorem wordsL_size (l:List UInt8) (n:Nat) (hn:1 <= n) (hl:l.length = 4 * n):∀ x ∈ wordsL l n,x.size = 4:=by
 unfold wordsL
 exact grow_size _ n _ hn (by unfold first; rw [Oct.pcs_len]) (first_size l n hl)
def keysL (l:List UInt8) (n:Nat):List ByteArray:=Oct.pcs (Oct.cat (wordsL l n)) 16 (n + 7)
theorem keysL_len (l:List UInt8) (n:Nat):(keysL l n).length = n + 7:=by unfold keysL; rw [Oct.pcs_len]
theorem catw_len (l:List UInt8) (n:Nat) (hn:1 <= n) (hl:l.length = 4 * n):(Oct.cat (wordsL l n)).length = 16 * (n + 7):=by
 rw [cat_len4 _ (wordsL_size l n hn hl),wordsL_len]; omega
def MakE (f:Nat) (args:Array Value) (ss:List ByteArray) (e:Int):Prop:=∀ w,Calls Tryz.prog f args w fun x w' => ∃ v,x = .returned (.tuple #[v,.int .i64 e]) /\ StrsR w' v ss /\ Below w.heap.size w w'
set_option maxHeartbeats 2000000 in
theorem keys_yes (key:ByteArray) (n:Nat) (hn:n = 4 ∨ n = 6 ∨ n = 8) (hk:key.size = 4 * n):MakE 185 #[.string key] (keysL key.data.toList n) 0:=by
 intro w
 have hl:key.data.toList.length = 4 * n:=hk
 have c1:Ret 23 #[.int .i64 (key.size:Int)] (.int .i64 ((n:Int) + 6)):=by
   rw [hk]; exact rounds_yes (4 * n) (by omega) _ (by omega)
 have c2:=words_mak key n hn hk
 have hcl:=catw_len key.data.toList n (by omega) hl
 obtain ⟨ws,hws⟩:∃ ws,ws = wordsL key.data.toList n:=⟨_,rfl⟩
 have hwl:ws.length = 4 * n + 28:=by rw [hws,wordsL_len]
 have hkl:keysL key.data.toList n = Oct.pcs (Oct.cat ws) 16 (n + 7):=by rw [hws]; rfl
 rw [<- hws] at c2 hcl
 rw [hkl]
 obtain ⟨J,hJ⟩:∃ J,J = bs (Oct.cat ws):=⟨_,rfl⟩
 have hJs:J.size = 16 * (n + 7):=by rw [hJ,size_bs,hcl]
 have c4:MakS 216 #[.string J,.int .i64 16] (Oct.pcs (Oct.cat ws) 16 (n + 7)):=Oct.pieces_mak J 16 (by decide) (by decide) (by omega) _ (by
   rw [hJs,show (16 * (n + 7) + 16 - 1) / 16 = n + 7 from by omega,hJ,list_bs])
 have c3:∀ W x,StrsR W x ws -> Calls Tryz.prog 56 #[x] W fun e w' => e = .returned (.string J) /\ Below W.heap.size W w':=fun W x hx => by
   rw [hJ]; exact Oct.join_strs W x ws hx (by omega) (by omega)
 have hb0:(((n:Int) + 6) == 0) = false:=by rw [beq_eq_false_iff_ne]; omega
 have H0:=lH (Since.refl w)
 have C3:=lH c3
 clear c3 hwl hkl hJ hJs hcl hws hl hk hn
 obtain ⟨ks,hks⟩:∃ ks,ks = Oct.pcs (Oct.cat ws) 16 (n + 7):=⟨_,rfl⟩
 rw [<- hks] at c4 ⊢
 clear hks
 go_enter Tryz.func185,Tryz.ntmps185
 go_wp2_with fail
 refine (c1).calls ?_
 go_wp2_with fail
 refine c2.calls H0.out ?_
 intro v w1 ho hb h1
 have hr:=Strs.read ho
 have H1:=lH h1
 clear h1
 have Hr:=lH hr
 clear hr
 clear ho hb
 go_wp2_with fail
 refine (C3.out _ _ Hr.out).mono ?_
 rintro e w2 ⟨rfl,h2⟩
 have H2:=lH (Since.step H1.out h2)
 clear h2
 go_wp2_with fail
 refine c4.calls H2.out ?_
 intro v3 w3 ho3 hb3 h3
 have hr3:=Strs.read ho3
 have H3:=lH h3
 clear h3
 have Hr3:=lH hr3
 clear hr3
 clear ho3 hb3
 go_wp2_with fail
 go_ret2
 exact ⟨_,rfl,Hr3.out,H3.out⟩
end Sched
end Go.Proofs.YtddlaafpianjbaaGreatDoor
namespace Go.Proofs.YtddlaafpianjbaaGreatDoor
namespace Aes
open Rnd
def rk (ks:List ByteArray) (i:Nat):List UInt8:=(ks.getD i ⟨#[]⟩).data.toList
def fwdL (ks:List ByteArray) (n:Nat) (b:List UInt8):Nat -> List UInt8
 | 0 => xorL b (rk ks 0)
 | i + 1 => doL (decide (i + 1 = n)) (fwdL ks n b i) (rk ks (i + 1))
def bwdL (ks:List ByteArray) (n:Nat) (b:List UInt8):Nat -> List UInt8
 | 0 => b
 | i + 1 => undoL (decide (n - i = n)) (bwdL ks n b i) (rk ks (n - i))
def encL (ks:List ByteArray) (n:Nat) (b:List UInt8):List UInt8:=fwdL ks n b n
def decL (ks:List ByteArray) (n:Nat) (b:List UInt8):List UInt8:=xorL (bwdL ks n b n) (rk ks 0)
theorem fwdL_len (ks:List ByteArray) (n:Nat) (b:List UInt8) (i:Nat):(fwdL ks n b i).length = 16:=by
 cases i with
 | zero => exact xorL_len _ _
 | succ i => exact doL_len _ _ _
theorem bwdL_len (ks:List ByteArray) (n:Nat) (b:List UInt8) (hb:b.length = 16) (i:Nat):(bwdL ks n b i).length = 16:=by
 cases i with
 | zero => exact hb
 | succ i => exact undoL_len _ _ _
theorem encL_len (ks:List ByteArray) (n:Nat) (b:List UInt8):(encL ks n b).length = 16:=fwdL_len _ _ _ _
theorem decL_len (ks:List ByteArray) (n:Nat) (b:List UInt8):(decL ks n b).length = 16:=xorL_len _ _
theorem bwd_fwd (ks:List ByteArray) (n:Nat) (b:List UInt8) (i:Nat) (hi:i <= n):bwdL ks n (fwdL ks n b n) i = fwdL ks n b (n - i):=by
 induction i with
 | zero => rfl
 | succ i ih =>
   obtain ⟨m,hm⟩:∃ m,n - i = m + 1:=⟨n - i - 1,by omega⟩
   have h1:=ih (by omega)
   rw [bwdL,h1,hm,fwdL,undo_do _ _ _ (fwdL_len _ _ _ _),show n - (i + 1) = m from by omega]
theorem dec_enc (ks:List ByteArray) (n:Nat) (b:List UInt8) (hb:b.length = 16):decL ks n (encL ks n b) = b:=by
 unfold decL encL
 rw [bwd_fwd _ _ _ _ (Nat.le_refl _),Nat.sub_self,fwdL,xor_xor _ _ hb]
theorem fwd_bwd (ks:List ByteArray) (n:Nat) (b:List UInt8) (hb:b.length = 16) (i:Nat) (hi:i <= n):fwdL ks n (decL ks n b) i = bwdL ks n b (n - i):=by
 induction i with
 | zero => rw [fwdL,decL,xor_xor _ _ (bwdL_len _ _ _ hb _),Nat.sub_zero]
 | succ i ih =>
   obtain ⟨m,hm⟩:∃ m,n - i = m + 1:=⟨n - i - 1,by omega⟩
   rw [fwdL,ih (by omega),hm,bwdL,show n - m = i + 1 from by omega,do_undo _ _ _ (bwdL_len _ _ _ hb _),show n - (i + 1) = m from by omega]
theorem enc_dec (ks:List ByteArray) (n:Nat) (b:List UInt8) (hb:b.length = 16):encL ks n (decL ks n b) = b:=by
 unfold encL
 rw [fwd_bwd _ _ _ hb _ (Nat.le_refl _),Nat.sub_self,bwdL]
def encK (key:ByteArray) (b:ByteArray):ByteArray:=bs (encL (Sched.keysL key.data.toList (key.size / 4)) (key.size / 4 + 6) b.data.toList)
def decK (key:ByteArray) (b:ByteArray):ByteArray:=bs (decL (Sched.keysL key.data.toList (key.size / 4)) (key.size / 4 + 6) b.data.toList)
def keyOk (key:ByteArray):Prop:=key.size = 16 ∨ key.size = 24 ∨ key.size = 32
theorem encK_size (key b:ByteArray):(encK key b).size = 16:=by unfold encK; rw [size_bs,encL_len]
theorem decK_size (key b:ByteArray):(decK key b).size = 16:=by unfold decK; rw [size_bs,decL_len]
theorem decK_encK (key b:ByteArray) (hb:b.size = 16):decK key (encK key b) = b:=by
 apply ba_ext
 unfold decK encK
 rw [list_bs,list_bs,dec_enc _ _ _ hb]
theorem encK_decK (key b:ByteArray) (hb:b.size = 16):encK key (decK key b) = b:=by
 apply ba_ext
 unfold decK encK
 rw [list_bs,list_bs,enc_dec _ _ _ hb]
theorem fold_put (vs:List Value):∀ (cs:Array Value) (off k:Nat),(∀ n,n = vs.length -> off + k + n <= cs.size) ->
   ((vs.zipIdx k).foldl (fun cs (c,j) => cs.setIfInBounds (off + j) c) cs).size = cs.size /\ ∀ i,((vs.zipIdx k).foldl (fun cs (c,j) => cs.setIfInBounds (off + j) c) cs)[i]? = if off + k <= i /\ i < off + k + vs.length then vs[i - (off + k)]? else cs[i]? := by
 induction vs with
 | nil => intro cs off k _; exact ⟨rfl,fun i => by rw [if_neg (by simp only [List.length_nil]; omega)]; rfl⟩
 | cons v vs ih =>
   intro cs off k h
   have hl:=h _ rfl
   rw [List.length_cons] at hl
   obtain ⟨h1,h2⟩:=ih (cs.setIfInBounds (off + k) v) off (k + 1) (fun n hn => by rw [Array.size_setIfInBounds]; omega)
   rw [List.zipIdx_cons,List.foldl_cons]
   refine ⟨by rw [h1,Array.size_setIfInBounds],fun i => ?_⟩
   rw [h2 i]
   by_cases c1:off + (k + 1) <= i /\ i < off + (k + 1) + vs.length
   · rw [if_pos c1,if_pos (by rw [List.length_cons]; omega),show i - (off + k) = i - (off + (k + 1)) + 1 from by omega,List.getElem?_cons_succ]
   · rw [if_neg c1]
     by_cases c2:i = off + k
     · subst c2
       rw [if_pos (by rw [List.length_cons]; omega),Nat.sub_self,Array.getElem?_setIfInBounds_self_of_lt (by omega)]; rfl
     · rw [if_neg (by rw [List.length_cons]; omega),Array.getElem?_setIfInBounds_ne (by omega)]
end Aes
end Go.Proofs.YtddlaafpianjbaaGreatDoor
namespace Go.Proofs.YtddlaafpianjbaaGreatDoor
open Go.RowKit
namespace RefSched
open Rnd Sched
theorem rounds_yes (m:Nat) (hm:m = 16 ∨ m = 24 ∨ m = 32) (x:Int) (hx:x = ((m / 4 + 6:Nat):Int)):Ret 194 #[.int .i64 (m:Int)] (.int .i64 x):=by
 intro w
 subst hx
 rcases hm with rfl | rfl | rfl
 all_goals
   go_enter Tryz.func194,Tryz.ntmps194
   go_wp2_with fail
   go_ret
   exact ⟨rfl,rfl⟩
theorem pow2 (a:Nat) (i:Int) (w:World) (ha:a <= 255) (hi:i <= 254):Calls Tryz.prog 243 #[.int .u8 (a:Int),.int .i64 i] w fun e w' => e = .returned (.int .u8 ((Gf.pow a i.toNat:Nat):Int)) /\ w = w':=RefField.pow_ret a i w ha (by omega)
theorem const_any (i:Int) (c:Nat) (hc:c = conN i):Ret 221 #[.int .i64 i] (.int .u8 (c:Int)):=by
 intro w
 by_cases h:1 <= i /\ i <= 255
 · obtain ⟨h1,h2⟩:=h
   have c1:Ret 243 #[.int .u8 2,.int .i64 (i - 1)] (.int .u8 (c:Int)):=fun w => by
     rw [hc,conN,if_pos ⟨h1,h2⟩]
     exact pow2 2 (i - 1) w (by decide) (by omega)
   have d1:decide (i < 1) = false:=decide_eq_false (by omega)
   have d2:decide ((255:Int) < i) = false:=decide_eq_false (by omega)
   clear hc
   go_enter Tryz.func221,Tryz.ntmps221
   go_wp2_with fail
   refine (c1).calls ?_
   go_wp2_with fail
   go_ret
   exact ⟨rfl,rfl⟩
 · have hc0:c = 0:=by rw [hc,conN,if_neg h]
   subst hc0
   clear hc
   by_cases h1:i < 1
   · clear h
     go_enter Tryz.func221,Tryz.ntmps221
     go_wp2_with fail
     go_ret
     exact ⟨rfl,rfl⟩
   · have h2:255 < i:=by omega
     clear h
     go_enter Tryz.func221,Tryz.ntmps221
     go_wp2_with fail
     go_ret
     exact ⟨rfl,rfl⟩
theorem xor_m (a b:ByteArray) (ha:a.size <= 140737488355328) (hb:b.size <= 140737488355328) (X:ByteArray) (hX:X = xorS a b):Mak 114 #[.string a,.string b] (.string X):=fun w => by
 rw [hX]; exact RefOct.xor_any a b _ w rfl ha hb
def upw (l:List UInt8) (n j:Nat):List ByteArray:=if j <= n then Oct.pcs l 4 j else grow (first l n) n (j - n)
theorem upw_len (l:List UInt8) (n j:Nat):(upw l n j).length = j:=by
 unfold upw; split
 · rw [Oct.pcs_len]
 · rw [grow_len,first,Oct.pcs_len]; omega
theorem upw_lo (l:List UInt8) (n j:Nat) (h:j < n):upw l n (j + 1) = upw l n j ++ [Oct.pc l 4 j]:=by
 unfold upw; rw [if_pos (by omega),if_pos (by omega),Oct.pcs_succ]
theorem upw_n (l:List UInt8) (n k:Nat):upw l n (n + k) = grow (first l n) n k:=by
 unfold upw
 by_cases h:k = 0
 · subst h; rw [if_pos (by omega)]; rfl
 · rw [if_neg (by omega),Nat.add_sub_cancel_left]
theorem upw_hi (l:List UInt8) (n j:Nat) (h:n <= j):upw l n (j + 1) = upw l n j ++ [word (upw l n j) j n]:=by
 obtain ⟨k,rfl⟩:∃ k,j = n + k:=⟨j - n,by omega⟩
 rw [Nat.add_assoc,upw_n,upw_n]; rfl
theorem upw_size (l:List UInt8) (n j:Nat) (hn:1 <= n) (hl:l.length = 4 * n):∀ x ∈ upw l n j,x.size = 4:=by
 unfold upw; split
 · rename_i hj
   intro x hx
   unfold Oct.pcs at hx
   obtain ⟨i,hi,rfl⟩:=List.mem_map.1 hx
   rw [List.mem_range] at hi
   unfold Oct.pc
   rw [size_bs,List.length_take,List.length_drop]
   omega
 · exact grow_size _ n _ hn (by unfold first; rw [Oct.pcs_len]) (first_size l n hl)
theorem conv4 (x:Int) (S:ByteArray) (hS:strOfNums [x,0,0,0] = S):∀ (W:World) (g:Nat),W.cell? ⟨g,0,none⟩ = some (.int .u8 x) -> W.cell? ⟨g,1,none⟩ = some (.int .u8 0) -> W.cell? ⟨g,2,none⟩ = some (.int .u8 0) -> W.cell? ⟨g,3,none⟩ = some (.int .u8 0) -> ∀ dst,Tryz.prog.underlying dst = some .string -> (convert 114 dst (.slice (some ⟨g,0,none⟩) 4 4)).run Tryz.prog W = .ok (.string S) W:=by
 subst hS
 intro W g h0 h1 h2 h3
 refine run_convert_bytes_arg (P:=Tryz.prog) W 114 5 Tryz.underlying114 Tryz.underlying5 g 0 4 4 [x,0,0,0] rfl fun i hi => ?_
 have hii:i = 0 ∨ i = 1 ∨ i = 2 ∨ i = 3:=by omega
 rcases hii with rfl | rfl | rfl | rfl
 · exact h0
 · exact h1
 · exact h2
 · exact h3
end RefSched
namespace RefSched
open Rnd Sched
theorem pkclosed (w0:World):PK w0 (.slice none 0 0) [] w0:=⟨Since.refl w0,World.ownsRow_nil _ _ _ _⟩
theorem subs_4 (s:ByteArray) (hs:s.size = 4) (X:ByteArray) (hX:X = bs (subL s.data.toList)):Mak 220 #[.string s] (.string X):=RefRnd.subs_m s (by omega) X hX
set_option maxHeartbeats 8000000 in
theorem words_mak (key:ByteArray) (n:Nat) (hn:n = 4 ∨ n = 6 ∨ n = 8) (hk:key.size = 4 * n):MakS 195 #[.string key] (wordsL key.data.toList n):=by
 intro w
 obtain ⟨l,hl0⟩:∃ l,l = key.data.toList:=⟨_,rfl⟩
 have hl:l.length = 4 * n:=by rw [hl0]; exact hk
 have c1:Ret 194 #[.int .i64 (key.size:Int)] (.int .i64 ((n:Int) + 6)):=by
   rw [hk]; exact rounds_yes (4 * n) (by omega) _ (by omega)
 have hd4:(key.size:Int) / 4 = (n:Int):=by omega
 have hki:(key.size:Int) = 4 * (n:Int):=by omega
 have hwl:wordsL key.data.toList n = upw l n (4 * n + 28):=by rw [<- hl0,show 4 * n + 28 = n + (3 * n + 28) from by omega,upw_n]; rfl
 rw [hwl]
 have hn1:4 <= n /\ n <= 8:=by omega
 obtain ⟨hn4,hn8⟩:=hn1
 have hb0:(((n:Int) + 6) == 0) = false:=by rw [beq_eq_false_iff_ne]; omega
 have HN:=lH hn
 have HL0:=lH hl0
 have HL:=lH hl
 have HK:=lH hk
 have HKI:=lH hki
 clear hwl hl hk hn hl0 hki
 go_enter Tryz.func195,Tryz.ntmps195
 go_wp2_with fail
 refine (c1).calls ?_
 go_wp2_with fail
 go_loopw [3,5] (fun v i wr => ∃ j:Nat,j <= 4 * n + 28 /\ j <= 60 /\ i = .int .i64 (j:Int) /\ Hid (PK w v (upw l n j) wr)) (fun _ i _ => 60 - (intOf i).toNat)
 case atStart => exact ⟨0,by omega,by omega,rfl,lH (pkclosed w)⟩
 case round =>
   obtain ⟨j,hj,hj60,rfl,HP⟩:=hrel
   by_cases hlt:j < 4 * n + 28
   · have i5:(j:Int) < 4 * ((n:Int) + 6) + 4:=by omega
     have hj9:j <= 1099511627776:=by omega
     by_cases hjn:j < n
     · obtain ⟨Pc,hPc⟩:∃ Pc,key.extract (4 * j) (4 * j + 4) = Pc:=⟨_,rfl⟩
       have hup:=upw_lo l n j hjn
       have hpc:Oct.pc l 4 j = Pc:=by
         rw [<- hPc]
         apply ba_ext
         unfold Oct.pc
         rw [ext_list,list_bs,HL0.out]
         congr 1
         omega
       rw [hpc] at hup
       have hb1:4 * (j:Int) + 4 <= (key.size:Int):=by rw [HKI.out]; omega
       have hji:(j:Int) < (n:Int):=by omega
       obtain ⟨ss,hss⟩:∃ ss,ss = upw l n j:=⟨_,rfl⟩
       have hsl:ss.length = j:=by rw [hss,upw_len]
       rw [<- hss] at HP hup
       have Hup:=lH hup
       clear hup
       have Hsl:=lH hsl
       clear hsl
       clear hss hpc
       go_wp2_with fail
       refine (c1).calls ?_
       go_wp2_with (at_builtin; refine app_one elemS rfl _ _ (by rfl) w wr _ j _ (by rfl) (pkown HP Hsl.out) HP.out.since _ (by rfl) rfl hj9 (by decide) ?_)
       intro v8 w8 ho8 hS8
       have hp8:Hid (PK w v8 (upw l n (j + 1)) w8):=lH ⟨hS8,by rw [Hup.out]; unfold Strs; rw [List.length_append,List.map_append,Hsl.out]; exact ho8⟩
       clear ho8 hS8
       go_wp2_with fail
       go_roundw
       case rel => exact ⟨j + 1,by omega,by omega,by go_num,hp8⟩
       case measure => simp [intOf]; omega
     · have hji:¬ (j:Int) < (n:Int):=by omega
       have hup:=upw_hi l n j (by omega)
       have hs4:=upw_size l n j (by omega) HL.out
       obtain ⟨ss,hss⟩:∃ ss,ss = upw l n j:=⟨_,rfl⟩
       have hsl:ss.length = j:=by rw [hss,upw_len]
       rw [<- hss] at HP hup hs4
       obtain ⟨g2,cap2,hv⟩:=Strs.form HP.out.own (by omega)
       rw [hsl] at hv
       subst hv
       obtain ⟨m,hm⟩:∃ m,m = j - 1:=⟨_,rfl⟩
       obtain ⟨k,hkk⟩:∃ k,k = j - n:=⟨_,rfl⟩
       obtain ⟨A,hA⟩:∃ A,A = ss.getD k ⟨#[]⟩:=⟨_,rfl⟩
       obtain ⟨B,hB⟩:∃ B,B = ss.getD m ⟨#[]⟩:=⟨_,rfl⟩
       have hA4:A.size = 4:=hs4 A (by rw [hA,List.getD,List.getElem?_eq_getElem (show k < ss.length by omega)]; exact List.getElem_mem _)
       have hB4:B.size = 4:=hs4 B (by rw [hB,List.getD,List.getElem?_eq_getElem (show m < ss.length by omega)]; exact List.getElem_mem _)
       have a1:∀ W,Hid (PK w (.slice (some ⟨g2,0,none⟩) j cap2) ss W) -> W.cell? ⟨g2,k,none⟩ = some (.string A):=fun W h => by rw [hA]; exact pkcell h k (by omega)
       have m0:wr.cell? ⟨g2,m,none⟩ = some (.string B):=by rw [hB]; exact pkcell HP m (by omega)
       obtain ⟨T,hT⟩:∃ T,T = trans B j n:=⟨_,rfl⟩
       have hT4:T.size = 4:=by rw [hT]; exact trans_size _ _ _ hB4
       obtain ⟨Y,hY⟩:∃ Y,Y = xorS A T:=⟨_,rfl⟩
       have c4:=xor_m A T (by omega) (by omega) Y hY
       have hup2:upw l n (j + 1) = ss ++ [Y]:=by
         rw [hup,hY,hT,hA,hB]
         unfold word
         rw [<- hm,<- hkk]
       have A1:=lH a1
       have e1:(j:Int) - (n:Int) = (k:Int):=by omega
       have e2:(j:Int) - 1 = (m:Int):=by omega
       have i1:(k:Int) < (j:Int):=by omega
       have i2:(m:Int) < (j:Int):=by omega
       have hup:=hup2
       have em:(j:Int) % (n:Int) = ((j % n:Nat):Int):=by simp
       have hBl:B.data.toList.length = 4:=hB4
       have hBi:(B.size:Int) = 4:=by omega
       have HB4:=lH hB4
       clear a1 hY hA hB hss hs4 hm hkk hup2 hA4 hT4
       have Hup:=lH hup
       clear hup
       have Hsl:=lH hsl
       clear hsl
       by_cases h0:j % n = 0
       · have f1:(j:Int) % (n:Int) = 0:=by omega
         obtain ⟨q,hq⟩:∃ q,q = j / n:=⟨_,rfl⟩
         have f2:(j:Int) / (n:Int) = (q:Int):=by rw [hq]; simp
         have hq60:q <= 60:=by rw [hq]; exact Nat.le_trans (Nat.div_le_self _ _) hj60
         obtain ⟨P1,hP1⟩:∃ P1,B.extract 1 4 = P1:=⟨_,rfl⟩
         obtain ⟨P2,hP2⟩:∃ P2,B.extract 0 1 = P2:=⟨_,rfl⟩
         obtain ⟨J,hJ⟩:∃ J,P1 ++ P2 = J:=⟨_,rfl⟩
         have hJl:J.data.toList = rot B.data.toList:=by
           rw [<- hJ,app_list,<- hP1,<- hP2,ext_list,ext_list]; rfl
         have hJs:J.size = 4:=by
           show J.data.toList.length = 4
           rw [hJl,rot]; simp [hBl]
         have hz1:P1.size = 3:=by rw [<- hP1]; simp; omega
         have hz2:P2.size = 1:=by rw [<- hP2]; simp; omega
         have hsz:¬ 9223372036854775807 < P1.size + P2.size:=by omega
         obtain ⟨S,hS⟩:∃ S,S = bs (subL J.data.toList):=⟨_,rfl⟩
         have c5:=subs_4 J hJs S hS
         have hSs:S.size = 4:=by rw [hS,size_bs,subL_len]; exact hJs
         obtain ⟨c,hc⟩:∃ c,c = conN ((q:Nat):Int):=⟨_,rfl⟩
         have hc256:c < 256:=by rw [hc]; exact conN_lt _
         have c6:=const_any (q:Int) c hc
         obtain ⟨R,hR⟩:∃ R,R = bs [UInt8.ofNat c,0,0,0]:=⟨_,rfl⟩
         have K1:=conv4 (c:Int) R (by rw [hR]; rfl)
         have hRs:R.size = 4:=by rw [hR]; rfl
         have c7:=xor_m S R (by omega) (by omega) T (by
           rw [hT]; unfold Sched.trans; rw [if_pos h0,hS,hR,hJl,hc,hq])
         clear hT hS hR hc hq hJl hz1 hz2 hJs hSs hRs em h0 hBl
         go_wp2_with fail
         refine (c1).calls ?_
         go_wp2_with fail
         go_region_with (first | (go_at_call 220; refine (c5 _).mono ?_; rintro e w5 ⟨rfl,h5⟩; have hp5:=pkstep h5 (by first | assumption | exact pkdrew (by assumption)); clear h5))
         all_goals
           go_wp2_with fail
           refine (c6).calls ?_
           go_wp2_with fail
           refine (c7 _).mono ?_
           rintro e w6 ⟨rfl,h6⟩
           have hp6:=pkstep h6 (by first | exact pkalloc _ hp5 | exact pkalloc _ (pkdrew hp5) | exact pkdrew (pkalloc _ hp5))
           clear h6
           have kA:=A1.out _ hp6
           go_wp2_with fail
           refine (c4 _).mono ?_
           rintro e w7 ⟨rfl,h7⟩
           have hp7:=pkstep h7 (hp6)
           clear h7 kA
           go_wp2_with (at_builtin; refine app_one elemS rfl _ _ (by rfl) w w7 _ j _ (by rfl) (pkown hp7 Hsl.out) hp7.out.since _ (by rfl) rfl hj9 (by decide) ?_)
           intro v8 w8 ho8 hS8
           have hp8:Hid (PK w v8 (upw l n (j + 1)) w8):=lH ⟨hS8,by rw [Hup.out]; unfold Strs; rw [List.length_append,List.map_append,Hsl.out]; exact ho8⟩
           clear ho8 hS8
           go_wp2_with fail
           go_roundw
           case rel => exact ⟨j + 1,by omega,by omega,by go_num,hp8⟩
           case measure => simp [intOf]; omega
       · have f1:((j:Int) % (n:Int) == 0) = false:=by rw [em,beq_eq_false_iff_ne]; omega
         by_cases h8:n = 8 /\ j % 8 = 4
         · obtain ⟨h88,h4⟩:=h8
           have f2:(j:Int) % 8 = 4:=by omega
           have f3:((n:Int) == 8) = true:=by rw [h88]; rfl
           have c5:=subs_4 B HB4.out T (by rw [hT]; unfold Sched.trans; rw [if_neg h0,if_pos ⟨h88,h4⟩])
           clear h88
           clear hT em h0 h4 hBl
           go_wp2_with fail
           refine (c1).calls ?_
           go_wp2_with fail
           refine (c5 _).mono ?_
           rintro e w5 ⟨rfl,h5⟩
           have hp5:=pkstep h5 HP
           clear h5
           have kA:=A1.out _ hp5
           go_wp2_with fail
           refine (c4 _).mono ?_
           rintro e w7 ⟨rfl,h7⟩
           have hp7:=pkstep h7 (hp5)
           clear h7 kA
           go_wp2_with (at_builtin; refine app_one elemS rfl _ _ (by rfl) w w7 _ j _ (by rfl) (pkown hp7 Hsl.out) hp7.out.since _ (by rfl) rfl hj9 (by decide) ?_)
           intro v8 w8 ho8 hS8
           have hp8:Hid (PK w v8 (upw l n (j + 1)) w8):=lH ⟨hS8,by rw [Hup.out]; unfold Strs; rw [List.length_append,List.map_append,Hsl.out]; exact ho8⟩
           clear ho8 hS8
           go_wp2_with fail
           go_roundw
           case rel => exact ⟨j + 1,by omega,by omega,by go_num,hp8⟩
           case measure => simp [intOf]; omega
         · have hXt:T = B:=by rw [hT]; unfold Sched.trans; rw [if_neg h0,if_neg h8]
           subst hXt
           by_cases hn9:n = 8
           · have f3:((n:Int) == 8) = true:=by rw [hn9]; rfl
             have f2:((j:Int) % 8 == 4) = false:=by rw [beq_eq_false_iff_ne]; omega
             clear hT em h0 h8 hBl hn9
             have kA:=A1.out _ HP
             go_wp2_with fail
             refine (c1).calls ?_
             go_wp2_with fail
             refine (c4 _).mono ?_
             rintro e w7 ⟨rfl,h7⟩
             have hp7:=pkstep h7 (HP)
             clear h7 kA
             go_wp2_with (at_builtin; refine app_one elemS rfl _ _ (by rfl) w w7 _ j _ (by rfl) (pkown hp7 Hsl.out) hp7.out.since _ (by rfl) rfl hj9 (by decide) ?_)
             intro v8 w8 ho8 hS8
             have hp8:Hid (PK w v8 (upw l n (j + 1)) w8):=lH ⟨hS8,by rw [Hup.out]; unfold Strs; rw [List.length_append,List.map_append,Hsl.out]; exact ho8⟩
             clear ho8 hS8
             go_wp2_with fail
             go_roundw
             case rel => exact ⟨j + 1,by omega,by omega,by go_num,hp8⟩
             case measure => simp [intOf]; omega
           · have f2:((n:Int) == 8) = false:=by rw [beq_eq_false_iff_ne]; omega
             clear hT em h0 h8 hBl hn9
             have kA:=A1.out _ HP
             go_wp2_with fail
             refine (c1).calls ?_
             go_wp2_with fail
             refine (c4 _).mono ?_
             rintro e w7 ⟨rfl,h7⟩
             have hp7:=pkstep h7 (HP)
             clear h7 kA
             go_wp2_with (at_builtin; refine app_one elemS rfl _ _ (by rfl) w w7 _ j _ (by rfl) (pkown hp7 Hsl.out) hp7.out.since _ (by rfl) rfl hj9 (by decide) ?_)
             intro v8 w8 ho8 hS8
             have hp8:Hid (PK w v8 (upw l n (j + 1)) w8):=lH ⟨hS8,by rw [Hup.out]; unfold Strs; rw [List.length_append,List.map_append,Hsl.out]; exact ho8⟩
             clear ho8 hS8
             go_wp2_with fail
             go_roundw
             case rel => exact ⟨j + 1,by omega,by omega,by go_num,hp8⟩
             case measure => simp [intOf]; omega
   · obtain rfl:j = 4 * n + 28:=by omega
     have i5:¬ ((4 * n + 28:Nat):Int) < 4 * ((n:Int) + 6) + 4:=by omega
     go_wp2_with fail
     refine (c1).calls ?_
     go_wp2_with fail
     go_ret
     exact ⟨_,rfl,HP.out.own,HP.out.since⟩
theorem quad (ws:List ByteArray) (h:∀ x ∈ ws,x.size = 4) (k:Nat) (hk:4 * k + 4 <= ws.length) (A B C D:ByteArray) (hA:A = ws.getD (4 * k) ⟨#[]⟩) (hB:B = ws.getD (4 * k + 1) ⟨#[]⟩) (hC:C = ws.getD (4 * k + 2) ⟨#[]⟩) (hD:D = ws.getD (4 * k + 3) ⟨#[]⟩) :
   A ++ B ++ C ++ D = Oct.pc (Oct.cat ws) 16 k:=by
 have e:ws.drop (4 * k) = A :: B :: C :: D :: ws.drop (4 * k + 4):=by
   rw [hA,hB,hC,hD]
   rw [List.drop_eq_getElem_cons (show 4 * k < ws.length by omega),List.drop_eq_getElem_cons (show 4 * k + 1 < ws.length by omega),List.drop_eq_getElem_cons (show 4 * k + 1 + 1 < ws.length by omega),List.drop_eq_getElem_cons (show 4 * k + 1 + 1 + 1 < ws.length by omega)]
   simp [List.getD,List.getElem?_eq_getElem (show 4 * k < ws.length by omega),List.getElem?_eq_getElem (show 4 * k + 1 < ws.length by omega),List.getElem?_eq_getElem (show 4 * k + 2 < ws.length by omega),List.getElem?_eq_getElem (show 4 * k + 3 < ws.length by omega)]
 have s4:∀ x ∈ ws.drop (4 * k),x.data.toList.length = 4:=fun x hx => h x (List.mem_of_mem_drop hx)
 rw [e] at s4
 have sA:=s4 A (by simp)
 have sB:=s4 B (by simp)
 have sC:=s4 C (by simp)
 have sD:=s4 D (by simp)
 apply ba_ext
 unfold Oct.pc
 rw [list_bs,show 16 * k = 4 * (4 * k) from by omega,cat_drop4 ws h,e,app_list,app_list,app_list]
 simp only [cat_cons]
 rw [<- List.append_assoc,<- List.append_assoc,<- List.append_assoc,List.take_left' (by simp only [List.length_append]; omega)]
set_option maxHeartbeats 8000000 in
theorem keys_yes (key:ByteArray) (n:Nat) (hn:n = 4 ∨ n = 6 ∨ n = 8) (hk:key.size = 4 * n):MakE 161 #[.string key] (keysL key.data.toList n) 0:=by
 intro w
 have hl:key.data.toList.length = 4 * n:=hk
 have c1:Ret 194 #[.int .i64 (key.size:Int)] (.int .i64 ((n:Int) + 6)):=by
   rw [hk]; exact rounds_yes (4 * n) (by omega) _ (by omega)
 have c2:=words_mak key n hn hk
 have hw4:=wordsL_size key.data.toList n (by omega) hl
 obtain ⟨ws,hws⟩:∃ ws,ws = wordsL key.data.toList n:=⟨_,rfl⟩
 have hwl:ws.length = 4 * n + 28:=by rw [hws,wordsL_len]
 have hkl:keysL key.data.toList n = Oct.pcs (Oct.cat ws) 16 (n + 7):=by rw [hws]; rfl
 rw [<- hws] at c2 hw4
 rw [hkl]
 have hb0:(((n:Int) + 6) == 0) = false:=by rw [beq_eq_false_iff_ne]; omega
 have H0:=lH (Since.refl w)
 have hn48:4 <= n /\ n <= 8:=by omega
 obtain ⟨hn4,hn8⟩:=hn48
 clear hkl hws hl hk hn
 have Hw4:=lH hw4
 clear hw4
 have Hwl:=lH hwl
 clear hwl
 go_enter Tryz.func161,Tryz.ntmps161
 go_wp2_with fail
 refine (c1).calls ?_
 go_wp2_with fail
 refine (c2 w).mono ?_
 rintro e w1 ⟨v1,rfl,ho1,h1⟩
 obtain ⟨g,cap,hv⟩:=Strs.form ho1 (by rw [Hwl.out]; omega)
 obtain ⟨N,hN⟩:∃ N,N = 4 * n + 28:=⟨_,rfl⟩
 rw [Hwl.out,<- hN] at hv
 subst hv
 have P1:Hid (PK w (.slice (some ⟨g,0,none⟩) N cap) ws w1):=lH ⟨h1,ho1⟩
 have HN:=lH hN
 have hN60:N <= 60:=by omega
 have H1:=lH h1
 have hg1:g < w1.heap.size:=by
   have h9:=pkcell P1 0 (by rw [Hwl.out]; omega)
   exact block_lt_of_cell h9
 clear ho1 h1 hN
 go_wp2_with fail
 go_loopw [5,6] (fun v i wr => ∃ k q:Nat,k <= n + 7 /\ q <= 60 /\ Hid (q = 4 * k) /\ i = .int .i64 (q:Int) /\ Hid (PK w1 v (Oct.pcs (Oct.cat ws) 16 k) wr)) (fun _ i _ => 60 - (intOf i).toNat)
 case atStart => exact ⟨0,0,by omega,by omega,lH rfl,rfl,lH (pkclosed w1)⟩
 case round =>
   obtain ⟨k,q,hk,hq60,HQ,rfl,HP⟩:=hrel
   have hq:=HQ.out
   have hNN:=HN.out
   by_cases hlt:k < n + 7
   · have hqN:q + 3 < N:=by omega
     obtain ⟨A,hA⟩:∃ A,A = ws.getD q ⟨#[]⟩:=⟨_,rfl⟩
     obtain ⟨B,hB⟩:∃ B,B = ws.getD (q + 1) ⟨#[]⟩:=⟨_,rfl⟩
     obtain ⟨C,hC⟩:∃ C,C = ws.getD (q + 2) ⟨#[]⟩:=⟨_,rfl⟩
     obtain ⟨D,hD⟩:∃ D,D = ws.getD (q + 3) ⟨#[]⟩:=⟨_,rfl⟩
     have hcell:∀ i,i < N -> ∀ W,Since w1 W -> W.cell? ⟨g,i,none⟩ = some (.string (ws.getD i ⟨#[]⟩)):=fun i hi W hW => (hW.below.cell (p:=⟨g,i,none⟩) hg1).trans (pkcell P1 i (by rw [Hwl.out]; omega))
     have hS:∀ W,Hid (Since w1 W) -> Hid (Since w1 W) /\ W.cell? ⟨g,q,none⟩ = some (.string A) /\ W.cell? ⟨g,q + 1,none⟩ = some (.string B) /\ W.cell? ⟨g,q + 2,none⟩ = some (.string C) /\ W.cell? ⟨g,q + 3,none⟩ = some (.string D):=fun W hW =>
       ⟨hW,by rw [hA]; exact hcell q (by omega) W hW.out,by rw [hB]; exact hcell (q + 1) (by omega) W hW.out,by rw [hC]; exact hcell (q + 2) (by omega) W hW.out,by rw [hD]; exact hcell (q + 3) (by omega) W hW.out⟩
     have hqd:=quad ws Hw4.out k (by rw [Hwl.out]; omega) A B C D (by rw [hA,hq]) (by rw [hB,hq]) (by rw [hC,hq]) (by rw [hD,hq])
     have sz:∀ i,i < N -> (ws.getD i ⟨#[]⟩).size = 4:=fun i hi => Hw4.out _ (by rw [List.getD,List.getElem?_eq_getElem (show i < ws.length by rw [Hwl.out]; omega)]; exact List.getElem_mem _)
     have sA:A.size = 4:=by rw [hA]; exact sz q (by omega)
     have sB:B.size = 4:=by rw [hB]; exact sz (q + 1) (by omega)
     have sC:C.size = 4:=by rw [hC]; exact sz (q + 2) (by omega)
     have sD:D.size = 4:=by rw [hD]; exact sz (q + 3) (by omega)
     obtain ⟨AB,hAB⟩:∃ AB,A ++ B = AB:=⟨_,rfl⟩
     have sAB:AB.size = 8:=by rw [<- hAB,ByteArray.size_append]; omega
     rw [hAB] at hqd
     obtain ⟨ABC,hABC⟩:∃ ABC,AB ++ C = ABC:=⟨_,rfl⟩
     have sABC:ABC.size = 12:=by rw [<- hABC,ByteArray.size_append]; omega
     rw [hABC] at hqd
     obtain ⟨Y,hY⟩:∃ Y,ABC ++ D = Y:=⟨_,rfl⟩
     rw [hY] at hqd
     have z1:¬ 9223372036854775807 < A.size + B.size:=by omega
     have z2:¬ 9223372036854775807 < AB.size + C.size:=by omega
     have z3:¬ 9223372036854775807 < ABC.size + D.size:=by omega
     obtain ⟨ss,hss⟩:∃ ss,ss = Oct.pcs (Oct.cat ws) 16 k:=⟨_,rfl⟩
     have hsl:ss.length = k:=by rw [hss,Oct.pcs_len]
     have hup:Oct.pcs (Oct.cat ws) 16 (k + 1) = ss ++ [Y]:=by rw [Oct.pcs_succ,hss,<- hqd]
     rw [<- hss] at HP
     have HS:=lH hS
     have hs0:Hid (Since w1 wr):=lH HP.out.since
     have w1':IntKind.i64.wrap ((q:Int) + 1) = (q:Int) + 1:=IntWalk.i64_in _ (by omega)
     have w2':IntKind.i64.wrap ((q:Int) + 2) = (q:Int) + 2:=IntWalk.i64_in _ (by omega)
     have w3':IntKind.i64.wrap ((q:Int) + 3) = (q:Int) + 3:=IntWalk.i64_in _ (by omega)
     have t1:((q:Int) + 1).toNat = q + 1:=by omega
     have t2:((q:Int) + 2).toNat = q + 2:=by omega
     have t3:((q:Int) + 3).toNat = q + 3:=by omega
     have b0:(0:Int) <= (q:Int):=by omega
     have b1:(q:Int) < (N:Int):=by omega
     have b2:(0:Int) <= (q:Int) + 1:=by omega
     have b3:(q:Int) + 1 < (N:Int):=by omega
     have b4:(0:Int) <= (q:Int) + 2:=by omega
     have b5:(q:Int) + 2 < (N:Int):=by omega
     have b6:(0:Int) <= (q:Int) + 3:=by omega
     have b7:(q:Int) + 3 < (N:Int):=by omega
     have hk9:k <= 1099511627776:=by omega
     clear hS hcell hA hB hC hD sz hss hqd hq hNN sA sB sC sD sAB sABC
     have Hsl:=lH hsl
     clear hsl
     have Hup:=lH hup
     clear hup
     go_wp2_with fail
     go_region_held3 (fun W => Hid (Since w1 W) /\ W.cell? ⟨g,q,none⟩ = some (.string A) /\ W.cell? ⟨g,q + 1,none⟩ = some (.string B) /\ W.cell? ⟨g,q + 2,none⟩ = some (.string C) /\ W.cell? ⟨g,q + 3,none⟩ = some (.string D))
       (first | exact HS.out _ (by assumption) | exact HS.out _ (lH hs0.out.drew) | exact HS.out _ (lH (hs0.out.alloc _)) | exact HS.out _ (lH ((hs0.out.alloc _).drew)) | exact HS.out _ (lH ((hs0.out.drew).alloc _)))
       (first | (refine step_one elemS rfl _ _ (by rfl) w1 _ _ k (ss.map Value.string) (by rfl) (by first | exact (pkown HP Hsl.out).alloc _ | exact ((pkown HP Hsl.out).drew).alloc _ | exact ((pkown HP Hsl.out).alloc _).drew) (by first | exact hs0.out.alloc _ | exact (hs0.out.drew).alloc _ | exact (hs0.out.alloc _).drew) _ (.string Y) (by rfl) (by simp [go_sem]) rfl hk9 (by decide) ?_; intro v7 w7 hown7 hS7; have hs7:Hid (Since w1 w7):=lH hS7))
     all_goals
       go_wp2_with fail
       go_roundw
       case rel => exact ⟨k + 1,q + 4,by omega,by have:=HQ.out; have:=HN.out; omega,lH (by have:=HQ.out; omega),by go_num,lH ⟨by first | exact hS7 | exact Since.drew hS7,by rw [Hup.out]; unfold Strs; rw [List.length_append,List.map_append,Hsl.out]; exact hown7⟩⟩
       case measure => simp [intOf]; omega
   · obtain rfl:k = n + 7:=by omega
     have b1:¬ (q:Int) < (N:Int):=by omega
     clear hq hNN
     go_wp2_with fail
     go_ret2
     exact ⟨_,rfl,Strs.read HP.out.own,Since.below (Since.step H1.out HP.out.since)⟩
end RefSched
namespace Sched
theorem MakE.calls {f:Nat} {args:Array Value} {ss:List ByteArray} {e:Int} (h:MakE f args ss e) {W0 w:World} (hs:Since W0 w) {R:Ending -> World -> Prop} (k:∀ v w',StrsR w' v ss -> Below w.heap.size w w' -> Since W0 w' -> R (.returned (.tuple #[v,.int .i64 e])) w'):Calls Tryz.prog f args w R :=
 (h w).mono fun _ _ ⟨v,he,ho,hb⟩ => by subst he; exact k v _ ho hb (hs.step hb)
theorem StrsR.form {w:World} {v:Value} {ss:List ByteArray} (h:StrsR w v ss) (hn:0 < ss.length):∃ b o c:Nat,v = .slice (some ⟨b,o,none⟩) ss.length c /\ b < w.heap.size /\ ∀ i,i < ss.length -> w.cell? ⟨b,o + i,none⟩ = some (.string (ss.getD i ⟨#[]⟩)):=by
 obtain ⟨_,A,c,rfl,h2⟩:=h
 rcases h2 with rfl | ⟨ad,rfl,hlt,hc⟩
 · simp at hn
 · obtain ⟨b,o,sp⟩:=ad
   have hsp:sp = none:=by simpa [Addr.add] using World.cell?_spot (hc 0 hn)
   subst hsp
   exact ⟨b,o,c,rfl,hlt,fun i hi => by
     have hadd:(⟨b,o,none⟩:Addr).add i = ⟨b,o + i,none⟩:=by unfold Addr.add; split <;> simp_all
     rw [<- hadd]; exact hc i hi⟩
end Sched
namespace Aes
open Rnd
def cipF (ks:List ByteArray) (len r:Int) (k p:Nat):Value :=
 if p < 1792 then tabV p else if p = 1792 then .int .i64 len else if p = 1793 then .int .i64 r else if p < 1794 + 16 * k then blV (rk ks ((p - 1794) / 16)) ((p - 1794) % 16) else .int .u8 0
structure Cip (w:World) (c:Nat) (ks:List ByteArray) (n:Nat) (len:Int):Prop where
 tb:TB w c
 ln:w.cell? ⟨c,1792,none⟩ = some (.int .i64 len)
 rd:w.cell? ⟨c,1793,none⟩ = some (.int .i64 (n:Int))
 ky:∀ j,j <= n -> ∀ i,i < 16 -> w.cell? ⟨c,1794 + 16 * j + i,none⟩ = some (blV (rk ks j) i)
theorem Cip.since {w w':World} {c:Nat} {ks:List ByteArray} {n:Nat} {len:Int} (h:Cip w c ks n len) (hs:Since w w'):Cip w' c ks n len :=
 ⟨h.tb.since hs,(hs.below.cell (p:=⟨c,1792,none⟩) h.tb.1).trans h.ln,(hs.below.cell (p:=⟨c,1793,none⟩) h.tb.1).trans h.rd,fun j hj i hi => (hs.below.cell (p:=⟨c,_,none⟩) h.tb.1).trans (h.ky j hj i hi)⟩
def zkey:Array Value:=Array.replicate 1792 (.int .u8 0) ++ #[.int .i64 0,.int .i64 0] ++ Array.replicate 240 (.int .u8 0)
theorem zkey_size:zkey.size = 2034:=by simp [zkey]
theorem infoC:(Tryz.prog.info? 168).bind (·.zero) = some (.agg zkey):=by kernel_rfl
theorem placesC:∃ fs,Tryz.prog.underlying 168 = some (.struct fs) /\ fs.toList.mapM (fun f => (Tryz.prog.info? f.type).map fun i => (f.offset,i.size)) = some [(0,1792),(1792,1),(1793,1),(1794,240)]:=⟨_,Tryz.underlying168,by kernel_rfl⟩
theorem zkey_at (i:Nat) (h:1794 <= i) (h2:i < 2034):zkey[i]? = some (.int .u8 0):=by
 unfold zkey
 rw [Array.getElem?_append_right (by simp; omega),Array.getElem?_replicate,if_pos (by simp; omega)]
theorem builtC (C:Array Value) (hC:C.size = 1792) (len r:Int):∃ X,Tryz.prog.built 168 [(0,.agg C),(1,.int .i64 len),(2,.int .i64 r)] = some X /\ X.size = 2034 /\
   (∀ i,i < 1792 -> X[i]? = C[i]?) /\ X[1792]? = some (.int .i64 len) /\ X[1793]? = some (.int .i64 r) /\ ∀ i,1794 <= i -> i < 2034 -> X[i]? = some (.int .u8 0):=by
 obtain ⟨fs,hu,hp⟩:=placesC
 have hi:=infoC
 cases hq:Tryz.prog.info? 168 with
 | none => rw [hq] at hi; cases hi
 | some it =>
   rw [hq] at hi
   have hz:it.zero = some (.agg zkey):=hi
   have hzs:=zkey_size
   have hza:=zkey_at
   unfold Program.built
   simp only [hq,hu,hz,hp]
   generalize zkey = Z at hzs hza
   obtain ⟨s1,a1⟩:=fold_put C.toList Z 0 0 (fun n hn => by simp at hn; omega)
   have e1:C.zipIdx.foldl (fun cs (c,j) => cs.setIfInBounds (0 + j) c) Z = (C.toList.zipIdx 0).foldl (fun cs (c,j) => cs.setIfInBounds (0 + j) c) Z:=by
     rw [<- Array.foldl_toList,Array.toList_zipIdx]
   obtain ⟨Y,hY⟩:∃ Y,Y = C.zipIdx.foldl (fun cs (c,j) => cs.setIfInBounds (0 + j) c) Z:=⟨_,rfl⟩
   rw [<- e1,<- hY] at s1 a1
   refine ⟨(Y.setIfInBounds 1792 (.int .i64 len)).setIfInBounds 1793 (.int .i64 r), ?_, ?_, ?_, ?_, ?_, ?_⟩
   · simp [Instr.fill,Value.cells,hC,hzs]
     have hY':Y = Array.foldl (fun cs x => cs.setIfInBounds x.2 x.1) Z C.zipIdx 0 1792:=by rw [hY]; simp [hC]
     rw [<- hY',s1,hzs]
     simp
   · simp [s1,hzs]
   · intro i hi
     rw [Array.getElem?_setIfInBounds_ne (by omega),Array.getElem?_setIfInBounds_ne (by omega),a1 i,if_pos (by simp; omega)]
     simp
   · rw [Array.getElem?_setIfInBounds_ne (by omega),Array.getElem?_setIfInBounds_self_of_lt (by omega)]
   · rw [Array.getElem?_setIfInBounds_self_of_lt (by simp; omega)]
   · intro i h1 h2
     rw [Array.getElem?_setIfInBounds_ne (by omega),Array.getElem?_setIfInBounds_ne (by omega),a1 i,if_neg (by simp; omega)]
     exact hza i h1 h2
theorem results_row_tmp {P:Program} {fn:Func} {p u:Tmp} {ty:TypeId} (h:fn.results = #[.cell p ty,.tmp u]) (tmps:Array Value) (w:World) (g:Nat) (t:TypeId) (cs:Array Value) (fr:Nat × Nat) (d:TypeDesc) (v:Value)
   (hp:tmps.getD p undef = .pointer (some ⟨g,0,none⟩)) (hv:tmps.getD u undef = v) (hg:w.heap[g]? = some (.cells cs t fr))
   (hu:P.underlying ty = some d) (hd:(match d with | .struct _ | .array _ _ => true | _ => false) = true) (hi:(P.info? ty).map (·.size) = some cs.size) :
   (results fn tmps).run P w = .ok (.tuple #[.agg cs,v]) w:=by
 rw [results_cell_tmp h,hp,hv]
 simp [asAddr,run_loadVar_row w g t ty cs fr d hg hu hd hi,Result.andThen]
theorem size_ret (c:Nat) (len:Int) (w:World) (h:w.cell? ⟨c,1792,none⟩ = some (.int .i64 len)):Calls Tryz.prog 191 #[.pointer (some ⟨c,0,none⟩)] w fun e w' => e = .returned (.int .i64 len) /\ w = w':=by
 go_enter Tryz.func191,Tryz.ntmps191
 go_wp2_with fail
 go_ret
 exact ⟨rfl,rfl⟩
end Aes
end Go.Proofs.YtddlaafpianjbaaGreatDoor
