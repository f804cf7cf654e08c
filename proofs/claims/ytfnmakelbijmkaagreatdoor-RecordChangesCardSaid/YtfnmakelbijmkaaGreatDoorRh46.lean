import Derived.Test.YtfnmakelbijmkaaGreatDoorRh44
import Derived.Lib.AppendZeros
import Derived.Test.YtfnmakelbijmkaaGreatDoorRh10
set_option maxRecDepth 100000
namespace Go.Proofs.YtfnmakelbijmkaaGreatDoor
open Go.RowKit
namespace Atf
open Att Rw Tlv
theorem elemAt:ElemIs 22 39 (.agg #[.int .i64 0,.string ⟨#[]⟩]) 2 24:=⟨Tryz.underlying22,by kernel_rfl,rfl,by decide⟩
theorem grow_nil (w:World):Calls Tryz.prog 66 #[.slice none 0 0,.int .i64 0] w fun e w' => e = .returned (.slice none 0 0) /\ w' = w:=by
 go_enter Tryz.func66,Tryz.ntmps66
 go_wp2_with fail
 go_ret
 exact ⟨rfl,rfl⟩
theorem own_zeros (w:World) (n c:Nat) (hn:n <= c) (hc:c <= maxLen) (z:Array Value) (hz:z.size = 2) (t:TypeId):(w.drew.alloc (.cells (Builtin.zeroCells z n ++ Builtin.zeroCells z (c - n)) t)).ownsRow w.heap.size t 2 (.slice (some ⟨w.heap.size,0,none⟩) 0 c) 0 []:=by
 have key:∀ k,(Builtin.zeroCells z k).size = k * 2:=fun k => by rw [size_zeroCells,hz]
 refine ⟨rfl,.inr ⟨w.heap.size,c,Builtin.zeroCells z n ++ Builtin.zeroCells z (c - n),rfl,Nat.le_refl _,heap_alloc_new w.drew _,Nat.zero_le _,hc, ?_,rfl⟩⟩
 rw [Array.size_append,key,key]
 omega
set_option maxHeartbeats 4000000 in
theorem grow_some (n:Nat) (h0:0 < n) (hn:n <= 1000) (w:World):Calls Tryz.prog 66 #[.slice none 0 0,.int .i64 (n:Int)] w fun e w' => ∃ v,e = .returned v /\ w'.ownsRow w.heap.size 39 2 v 0 [] /\ Since w w':=by
 obtain ⟨ht,hi,hz,hs0⟩:=elemAt
 obtain ⟨i,hi1,hi2⟩:=Option.map_eq_some_iff.1 hi
 simp only [Prod.mk.injEq] at hi2
 have hr:∀ ty,(Builtin.append_ #[22,3] ty #[.slice none 0 0,.int .i64 (n:Int)]).run Tryz.prog w = .ok (.slice (some ⟨w.heap.size,0,none⟩) n (grownCap w n 0 39)) (w.drew.alloc (.cells (Builtin.zeroCells #[.int .i64 0,.string ⟨#[]⟩] n ++ Builtin.zeroCells #[.int .i64 0,.string ⟨#[]⟩] (grownCap w n 0 39 - n)) 39)):=fun ty =>
   Lib.run_append_nil_zeros w 22 3 ty 39 i (.agg #[.int .i64 0,.string ⟨#[]⟩]) .i64 .i64 ht Tryz.underlying3 hi1 hi2.1 n h0 (by rw [hi2.2.1]; omega) (by omega) (by rw [hi2.2.2]; omega)
 obtain ⟨G,hG⟩:∃ G,G = grownCap w n 0 39:=⟨_,rfl⟩
 have g1:=grownCap_ge w n 0 39
 have g2:=grownCap_le_maxLen w n 0 39 (by unfold maxLen; omega)
 rw [<- hG] at g1 g2
 rw [<- hG] at hr
 have HO:=lH (own_zeros w n G g1 g2 #[.int .i64 0,.string ⟨#[]⟩] rfl 39)
 have HS:=lH (show Since w (w.drew.alloc (.cells (Builtin.zeroCells #[.int .i64 0,.string ⟨#[]⟩] n ++ Builtin.zeroCells #[.int .i64 0,.string ⟨#[]⟩] (G - n)) 39)) from Since.alloc (Att.belowN w 1) _)
 have HR:=lH hr
 obtain ⟨W2,hW2⟩:∃ W,W = w.drew.alloc (.cells (Builtin.zeroCells #[.int .i64 0,.string ⟨#[]⟩] n ++ Builtin.zeroCells #[.int .i64 0,.string ⟨#[]⟩] (G - n)) 39):=⟨_,rfl⟩
 rw [<- hW2] at HO HS HR
 clear hG hi hi1 hi2 hr ht hz hs0 hW2
 have x1:decide ((0:Int) < (n:Int)) = true:=decide_eq_true (by omega)
 have x2:decide (0 < n) = true:=decide_eq_true h0
 have x3:decide ((n:Int) < 0) = false:=decide_eq_false (by omega)
 go_enter Tryz.func66,Tryz.ntmps66
 go_wp2_with (at_builtin; refine Lib.wpList_append_run _ rfl _ _ _ _ rfl _ _ (by rfl) (by rfl) _ _ (HR.out _) ?_)
 go_ret
 exact ⟨_,rfl,HO.out,HS.out⟩
theorem run_app_nothing {P:Program} (w:World) (t ty e:TypeId) (i:TypeInfo) (ht:P.underlying t = some (.slice e)) (hi:P.info? e = some i) (base:Option Addr) (sLen sCap:Nat) (hle:sLen <= sCap) (A:Option Addr) (c:Nat) :
   (Builtin.append_ #[t,t] ty #[.slice base sLen sCap,.slice A 0 c]).run P w = .ok (.slice base sLen sCap) w:=by
 cases base <;> cases A <;> simp [Builtin.append_,run_underlying ht,sizeOf,typeInfo,hi,hle,Builtin.lenOf,Builtin.firstCells,storeCells,loadCells,loadCellsFrom]
theorem app_none {T E:TypeId} {z:Value} {size bytes:Nat} (I:ElemIs T E z size bytes) {ops:Array Oper} {rest:List Oper} {o:Oper} {a:Act} {Q:Exit -> Act -> World -> Prop} (hgd:o.guard = none) (s x:Operand)
   (ho:o.op = .call { callee:=.builtin .append,args:=#[s,x],argTypes:=#[T,T] })
   (wr:World) (A:Option Addr) (n c:Nat) (hle:n <= c) (hs:a.eval s = .slice A n c) (B:Option Addr) (d:Nat) (hx:a.eval x = .slice B 0 d)
   (h:wpList Tryz.prog ops Q rest (a.put o.dst (.slice A n c)) wr):wpList Tryz.prog ops Q (o :: rest) a wr:=by
 obtain ⟨ht,hi,hz,hs0⟩:=I
 obtain ⟨i,hi1,hi2⟩:=Option.map_eq_some_iff.1 hi
 exact Lib.wpList_append_run wr hgd s x T T ho _ _ hs hx _ _ (run_app_nothing wr T o.type E i ht hi1 A n c hle B d) h
def AttssS (w:World) (v:Value) (Ls:List (List A2)):Prop:=∃ vs,SlR w 1 v Ls.length vs /\ ∀ (j:Nat) x L,vs[j]? = some x -> Ls[j]? = some L -> AttsS w x L
theorem AttssS.form {w:World} {v:Value} {Ls:List (List A2)} (h:AttssS w v Ls) (hn:0 < Ls.length) :
   ∃ b o c,v = .slice (some ⟨b,o,none⟩) Ls.length c /\ b < w.heap.size /\ ∀ (j:Nat) L,Ls[j]? = some L -> ∃ x,w.cell? ⟨b,o + j,none⟩ = some x /\ AttsS w x L:=by
 obtain ⟨vs,h1,h2⟩:=h
 obtain ⟨b,o,c,hv,_,_,h3,h4⟩:=SlR.form h1 hn
 have hl:vs.length = Ls.length:=by have:=h1.1; omega
 refine ⟨b,o,c,hv,h3,fun j L hL => ?_⟩
 have hj:=(List.getElem?_eq_some_iff.1 hL).1
 obtain ⟨x,hx⟩:∃ x,vs[j]? = some x:=⟨_,List.getElem?_eq_getElem (by omega)⟩
 exact ⟨x,h4 j x hx,h2 j x L hx hL⟩
theorem own_slice {w:World} {base:Nat} {e:TypeId} {k n:Nat} {v:Value} {xs:List Value} (h:w.ownsRow base e k v n xs):∃ A c,v = .slice A n c /\ n <= c:=by
 rcases h.2 with ⟨h0,h1⟩ | ⟨g',cap,cur,hv,hb,hg,hc,_⟩
 · subst h1; exact ⟨_,_,h0,Nat.le_refl _⟩
 · exact ⟨_,_,hv,hc⟩
theorem fl_len (L:List A2):(L.flatMap ac).length = L.length * 2:=by
 induction L with
 | nil => rfl
 | cons p l ih =>
   rw [List.flatMap_cons,List.length_append,ih,ac_len,List.length_cons]
   omega
theorem sum_step (Ls:List (List A2)) (a:Nat) (L:List A2) (h:Ls[a]? = some L):(Ls.take (a + 1)).flatten = (Ls.take a).flatten ++ L:=by
 rw [take_snoc Ls a L h,List.flatten_append]
 simp
theorem sum_le (Ls:List (List A2)) (a:Nat):((Ls.take a).flatten).length <= Ls.flatten.length:=by
 conv => rhs; rw [<- List.take_append_drop a Ls,List.flatten_append,List.length_append]
 omega
set_option maxHeartbeats 8000000 in
theorem concat_core (Ls:List (List A2)) (h0:0 < Ls.length) (hl:Ls.length <= 10) (hm:Ls.flatten.length <= 1000) (m:Nat) (hmm:m = Ls.flatten.length) (X:List Value) (hX:X = Ls.flatten.flatMap ac) (w:World) (P:Value) (hP:AttssS w P Ls):Calls Tryz.prog 49 #[P] w fun e w' => ∃ v,e = .returned v /\ w'.ownsRow w.heap.size 39 2 v m X /\ Since w w':=by
 have HMM:=lH hmm
 have HXX:=lH hX
 clear hmm hX
 obtain ⟨b,o,c,rfl,l3,l4⟩:=hP.form h0
 have HP:=lH l4
 have HLT:=lH l3
 have HM:=lH hm
 have HSL:=lH (sum_le Ls)
 obtain ⟨n,hn⟩:∃ n,n = Ls.length:=⟨_,rfl⟩
 have HN:=lH hn
 rw [<- hn] at h0 hl ⊢
 have x0:(0:Int) < (n:Int):=by omega
 clear hP l4 l3 hn
 go_enter Tryz.func49,Tryz.ntmps49
 go_wp2_with fail
 go_loop [3,11] (fun s i => ∃ a:Nat,a <= n /\ i = .int .i64 (a:Int) /\ s = .int .i64 (((Ls.take a).flatten.length:Nat):Int)) (fun _ i => n - (intOf i).toNat)
 case atStart => exact ⟨0,Nat.zero_le _,rfl,rfl⟩
 case round =>
   obtain ⟨a,ha,rfl,rfl⟩:=hrel
   have hs1:=HSL.out a
   have hs2:=HM.out
   by_cases hlt:a < n
   · obtain ⟨L,hL⟩:∃ L,Ls[a]? = some L:=⟨_,List.getElem?_eq_getElem (by have:=HN.out; omega)⟩
     obtain ⟨x,n0,hx⟩:=HP.out a L hL
     obtain ⟨XA,xc,rfl,-,-⟩:=hx.slice
     have hst:=congrArg List.length (sum_step Ls a L hL)
     rw [List.length_append] at hst
     have hs3:=HSL.out (a + 1)
     obtain ⟨q,hq⟩:∃ q,q = (Ls.take a).flatten.length:=⟨_,rfl⟩
     obtain ⟨q2,hq2⟩:∃ q,q = (Ls.take (a + 1)).flatten.length:=⟨_,rfl⟩
     rw [<- hq] at hst hs1 ⊢
     rw [<- hq2] at hst hs3
     have i1:(0:Int) <= (a:Int):=by omega
     have i2:(a:Int) < (n:Int):=by omega
     have t1:decide ((q:Int) + (L.length:Int) < 0) = false:=decide_eq_false (by omega)
     have HQ2:=lH hq2
     clear hx hL hq hq2
     go_wp2_with fail
     go_round
     case rel => exact ⟨a + 1,by omega,by go_num,by rw [<- HQ2.out,hst]; go_num⟩
     case measure => (simp [intOf] <;> omega)
   · obtain rfl:n = a:=by omega
     have ht:(Ls.take n).flatten = Ls.flatten:=by rw [HN.out,List.take_length]
     rw [ht] at hs1 ⊢
     rw [<- HMM.out] at hs1 hs2 ⊢
     clear ht
     have hg:Calls Tryz.prog 66 #[.slice none 0 0,.int .i64 (m:Int)] w fun e w' => ∃ v,e = .returned v /\ w'.ownsRow w.heap.size 39 2 v 0 [] /\ Since w w':=by
       by_cases hm0:m = 0
       · rw [hm0]
         refine (grow_nil w).mono ?_
         rintro _ _ ⟨rfl,rfl⟩
         exact ⟨_,rfl,World.ownsRow_nil _ _ _ _,Since.refl _⟩
       · exact grow_some m (by omega) (by omega) w
     go_wp2_with fail
     refine hg.mono ?_
     rintro _ w1 ⟨v1,rfl,ho1,h1⟩
     have HR0:=lH (show Rw.Rows w1 w.heap.size (([]:List Row) ++ ⟨39,2,v1,0,[]⟩ :: []) from ⟨fun r hr => by rw [List.mem_singleton.1 hr]; exact ho1,by simp⟩)
     have HS0:=lH h1
     clear hg ho1 h1
     go_wp2_with fail
     go_loopw [6,27] (fun V i wr => ∃ a:Nat,a <= n /\ i = .int .i64 (a:Int) /\ Hid (Rw.Rows wr w.heap.size (([]:List Row) ++ ⟨39,2,V,(Ls.take a).flatten.length,((Ls.take a).flatten).flatMap ac⟩ :: [])) /\ Hid (Since w wr)) (fun _ i _ => n - (intOf i).toNat)
     case atStart => exact ⟨0,Nat.zero_le _,rfl,HR0,HS0⟩
     case round =>
       clear HR0 HS0
       obtain ⟨a,ha,rfl,HR,HS⟩:=hrel
       obtain ⟨VA,vc,hVA,hvc⟩:=own_slice HR.out.get
       dsimp only at hVA hvc
       subst hVA
       by_cases hlt:a < n
       · obtain ⟨L,hL⟩:∃ L,Ls[a]? = some L:=⟨_,List.getElem?_eq_getElem (by have:=HN.out; omega)⟩
         obtain ⟨x,n0,hx⟩:=HP.out a L hL
         replace n0:=(Below.cell HS.out (p:=⟨b,o + a,none⟩) HLT.out).trans n0
         have i1:(0:Int) <= (a:Int):=by omega
         have i2:(a:Int) < (n:Int):=by omega
         have hst:=sum_step Ls a L hL
         have hs3:=HSL.out (a + 1)
         rw [hst,List.length_append] at hs3
         rw [HMM.out] at hs2
         obtain ⟨Y,hY⟩:∃ Y,Y = (Ls.take a).flatten:=⟨_,rfl⟩
         rw [<- hY] at HR hst hs3 hvc ⊢
         have HST:=lH hst
         by_cases hz:L.length = 0
         · obtain ⟨XA,xc,rfl,-⟩:=hx.empty hz
           obtain rfl:=List.length_eq_zero_iff.1 hz
           have HF:Hid (Rw.Rows wr w.heap.size (([]:List Row) ++ ⟨39,2,.slice VA Y.length vc,(Ls.take (a + 1)).flatten.length,((Ls.take (a + 1)).flatten).flatMap ac⟩ :: [])):=lH (by
             rw [hst,List.append_nil]; exact HR.out)
           clear hx hL hst hs3 hs2 hY
           go_wp2_with (at_builtin; refine app_none elemAt rfl _ _ (by rfl) wr VA Y.length vc hvc (by rfl) XA xc (by rfl) ?_)
           go_roundw
           case rel => exact ⟨a + 1,by omega,by go_num,HF,HS⟩
           case measure => (simp [intOf] <;> omega)
         · obtain ⟨b2,o2,c2,rfl,g1,g2,g3,g4⟩:=SlR.form hx (by omega)
           have HC:=lH (show ∀ (j:Nat) u,(L.flatMap ac)[j]? = some u -> wr.cell? ((⟨b2,o2,none⟩:Addr).add j) = some u from fun j u hu => by
             have hadd:(⟨b2,o2,none⟩:Addr).add j = ⟨b2,o2 + j,none⟩:=by unfold Addr.add; split <;> simp_all
             rw [hadd]
             exact (Below.cell HS.out (p:=⟨b2,o2 + j,none⟩) g3).trans (g4 j u hu))
           have HL:=lH (show (L.flatMap ac).length = L.length * 2 from fl_len L)
           have H1:=lH (show ∀ u ∈ L.flatMap ac,u.oneCell' = true from fun u hu => by
             obtain ⟨p,_,hp⟩:=List.mem_flatMap.1 hu
             unfold ac at hp
             simp only [List.mem_cons,List.not_mem_nil,or_false] at hp
             rcases hp with rfl | rfl <;> rfl)
           have HB1:=lH (show Y.length + L.length <= maxLen by unfold maxLen; omega)
           have HB2:=lH (show (Y.length + L.length) * 24 <= 140737488355328 by omega)
           obtain ⟨y,hy⟩:∃ y,y = Y.length:=⟨_,rfl⟩
           rw [<- hy] at HR HB1 HB2 ⊢
           have HY:=lH hy
           clear hx hL hst hs3 hs2 hY g4 hy
           go_wp2_with (at_builtin; refine Tree.app_from elemAt rfl _ _ (by rfl) w wr [] [] _ y _ (by rfl) HR.out HS.out ⟨b2,o2,none⟩ (L.flatMap ac) c2 L.length (by rfl) HL.out HC.out H1.out HB1.out HB2.out ?_; intro V2 w2 HQ2 HT2)
           obtain ⟨A2,q2,hA2,hq2⟩:=own_slice HQ2.get
           dsimp only at hA2
           subst hA2
           have HF:Hid (Rw.Rows w2 w.heap.size (([]:List Row) ++ ⟨39,2,.slice A2 (y + L.length) q2,(Ls.take (a + 1)).flatten.length,((Ls.take (a + 1)).flatten).flatMap ac⟩ :: [])):=lH (by
             rw [HST.out,List.length_append,List.flatMap_append,<- HY.out]; exact HQ2)
           have HS2:=lH HT2
           clear HQ2 HT2 hq2
           go_wp2_with fail
           go_roundw
           case rel => exact ⟨a + 1,by omega,by go_num,HF,HS2⟩
           case measure => (simp [intOf] <;> omega)
       · obtain rfl:n = a:=by omega
         have ht:(Ls.take n).flatten = Ls.flatten:=by rw [HN.out,List.take_length]
         rw [ht,<- HMM.out] at HR ⊢
         have HO:=lH HR.out.get
         clear hvc
         go_wp2_with fail
         go_ret
         exact ⟨_,rfl,by rw [HXX.out]; exact HO.out,HS.out⟩
theorem concat_mk (Ls:List (List A2)) (h0:0 < Ls.length) (hl:Ls.length <= 10) (hm:Ls.flatten.length <= 1000) (w:World) (P:Value) (hP:AttssS w P Ls):Calls Tryz.prog 49 #[P] w fun e w' => ∃ v,e = .returned v /\ w'.ownsRow w.heap.size 39 2 v Ls.flatten.length (Ls.flatten.flatMap ac) /\ Since w w' :=
 concat_core Ls h0 hl hm _ rfl _ rfl w P hP
end Atf
namespace Atf
open Att Rw Atm Tlv
theorem ac_one (p:A2):∀ u ∈ (#[.int .i64 p.1,.string p.2]:Array Value).toList,u.oneCell' = true:=by
 intro u hu
 simp only [List.mem_cons,List.not_mem_nil,or_false] at hu
 rcases hu with rfl | rfl <;> rfl
def ARow (w wr:World) (V:Value) (O:List A2):Prop:=Rw.Rows wr w.heap.size (([]:List Row) ++ ⟨39,2,V,O.length,O.flatMap ac⟩ :: [])
theorem ARow.nil (w wr:World):ARow w wr (.slice none 0 0) []:=⟨fun r hr => by rw [List.mem_singleton.1 hr]; exact World.ownsRow_nil _ _ _ _,by simp⟩
theorem ARow.since {w wr wy:World} {V:Value} {O:List A2} (h:ARow w wr V O) (hs:Since wr wy):ARow w wy V O:=Rw.Rows.since h hs
theorem ARow.val {w wr:World} {V:Value} {O:List A2} (h:ARow w wr V O):∃ A c,V = .slice A O.length c /\ O.length <= c:=own_slice h.get
theorem ARow.atts {w wr:World} {V:Value} {O:List A2} (h:ARow w wr V O):AttsS wr V O:=AttsS.own h.get
theorem ARow.app {w wr:World} {V:Value} {O:List A2} (p:A2) (h:Rw.Rows wr w.heap.size (([]:List Row) ++ ⟨39,2,V,O.length + 1,O.flatMap ac ++ (#[.int .i64 p.1,.string p.2]:Array Value).toList⟩ :: [])):ARow w wr V (O ++ [p]):=by
 unfold ARow
 rw [List.length_append,List.flatMap_append]
 exact h
theorem drop_snoc (L:List A2) (t:Int) (k:Nat) (p:A2) (h:L[k]? = some p):dropA (L.take (k + 1)) t = if p.1 = t then dropA (L.take k) t else dropA (L.take k) t ++ [p]:=by
 rw [take_snoc L k p h]
 unfold dropA
 rw [List.filter_append]
 by_cases hp:p.1 = t
 · rw [if_pos hp,List.filter_cons,if_neg (by simpa using hp)]
   simp
 · rw [if_neg hp,List.filter_cons,if_pos (by simpa using hp)]
   rfl
theorem drop_len (L:List A2) (t:Int):(dropA L t).length <= L.length:=List.length_filter_le _ _
set_option maxHeartbeats 8000000 in
theorem without_mk (L:List A2) (t:Int) (hm:L.length <= 1000) (w:World) (x:Value) (hx:AttsS w x L):Calls Tryz.prog 53 #[x,.int .i64 t] w fun e w' => ∃ v,e = .returned v /\ AttsS w' v (dropA L t) /\ Since w w':=by
 obtain ⟨A,c,rfl,-,-⟩:=hx.slice
 obtain ⟨n,hn⟩:∃ n,n = L.length:=⟨_,rfl⟩
 have HX:=lH hx
 have HN:=lH hn
 rw [<- hn] at hm ⊢
 clear hx hn
 go_enter Tryz.func53,Tryz.ntmps53
 go_wp2_with fail
 go_loopw [5,6] (fun V i wr => ∃ k:Nat,k <= n /\ i = .int .i64 (k:Int) /\ Hid (ARow w wr V (dropA (L.take k) t)) /\ Hid (Since w wr)) (fun _ i _ => n - (intOf i).toNat)
 case atStart => exact ⟨0,Nat.zero_le _,rfl,lH (ARow.nil _ _),lH (Since.refl w)⟩
 case round =>
   obtain ⟨k,hk,rfl,HR,HS⟩:=hrel
   obtain ⟨VA,vc,rfl,-⟩:=HR.out.val
   by_cases hlt:k < n
   · obtain ⟨b,o,c9,hv,h1,h2,h3,h4⟩:=HX.out.form (by rw [<- HN.out]; omega)
     obtain ⟨rfl,-,rfl⟩:=Value.slice.inj hv
     clear hv
     obtain ⟨⟨y,s⟩,hs⟩:∃ s,L[k]? = some s:=⟨L[k]'(by rw [<- HN.out]; exact hlt),List.getElem?_eq_getElem _⟩
     obtain ⟨m0,m1⟩:=h4 k _ hs
     replace m0:wr.cell? ⟨b,o + k * 2,none⟩ = some (.int .i64 y):=(Below.cell HS.out (p:=⟨b,o + k * 2,none⟩) h3).trans m0
     replace m1:wr.cell? ⟨b,o + k * 2 + 1,none⟩ = some (.string s):=(Below.cell HS.out (p:=⟨b,o + k * 2 + 1,none⟩) h3).trans m1
     have i1:(0:Int) <= (k:Int):=by omega
     have i2:(k:Int) < (n:Int):=by omega
     have hd:=drop_snoc L t k _ hs
     have hdl:(dropA (L.take k) t).length <= k:=Nat.le_trans (drop_len _ _) (by rw [List.length_take]; omega)
     obtain ⟨O,hO⟩:∃ O,O = dropA (L.take k) t:=⟨_,rfl⟩
     rw [<- hO] at HR hd hdl ⊢
     clear h4 hs h2 h1
     by_cases hy:y = t
     · have t1:(y != t) = false:=by rw [hy]; simp
       rw [if_pos hy] at hd
       have HF:Hid (ARow w wr (.slice VA O.length vc) (dropA (L.take (k + 1)) t)):=lH (by rw [hd]; exact HR.out)
       clear hd hO hdl hy
       go_wp2_with fail
       go_roundw
       case rel => exact ⟨k + 1,by omega,by go_num,HF,HS⟩
       case measure => (simp [intOf] <;> omega)
     · have t1:(y != t) = true:=by simpa using hy
       rw [if_neg hy] at hd
       have HD:=lH hd
       have HB1:=lH (show O.length + 1 <= maxLen by unfold maxLen; omega)
       have HB2:=lH (show (O.length + 1) * 24 <= 140737488355328 by omega)
       clear hd hO hdl hy h3
       go_wp2_with (at_builtin; refine app_rows elemAt rfl _ _ (by rfl) w wr _ rfl [] [] _ O.length _ (by rfl) HR.out HS.out #[.int .i64 y,.string s] 1 1 (by rfl) rfl (ac_one (y,s)) HB1.out HB2.out ?_; intro V2 w2 HQ2 HT2 _)
       have HF:Hid (ARow w w2 V2 (dropA (L.take (k + 1)) t)):=lH (by rw [HD.out]; exact ARow.app (y,s) HQ2)
       have HS2:=lH HT2
       clear HQ2 HT2
       go_wp2_with fail
       go_roundw
       case rel => exact ⟨k + 1,by omega,by go_num,HF,HS2⟩
       case measure => (simp [intOf] <;> omega)
   · obtain rfl:n = k:=by omega
     have ht:L.take n = L:=by rw [HN.out,List.take_length]
     rw [ht] at HR ⊢
     have HO:=lH HR.out.atts
     go_wp2_with fail
     go_ret
     exact ⟨_,rfl,HO.out,HS.out⟩
def wsp (a:A2) (s:List A2 × Bool) (p:A2):List A2 × Bool:=if s.2 = false /\ a.1 < p.1 then (s.1 ++ [a] ++ [p],true) else (s.1 ++ [p],s.2)
def wst (a:A2) (L:List A2):List A2 × Bool:=L.foldl (wsp a) ([],false)
theorem wst_snoc (a:A2) (L:List A2) (k:Nat) (p:A2) (h:L[k]? = some p):wst a (L.take (k + 1)) = wsp a (wst a (L.take k)) p:=by
 rw [take_snoc L k p h]
 unfold wst
 rw [List.foldl_append]
 rfl
theorem wst_from (a:A2) (L:List A2):∀ o,(L.foldl (wsp a) (o,true)) = (o ++ L,true):=by
 induction L with
 | nil => intro o; rw [List.append_nil]; rfl
 | cons p l ih =>
   intro o
   have e:wsp a (o,true) p = (o ++ [p],true):=by unfold wsp; rw [if_neg (by simp)]
   rw [List.foldl_cons,e,ih,List.append_assoc]
   rfl
theorem wst_go (a:A2) (L:List A2):∀ o,(if (L.foldl (wsp a) (o,false)).2 = true then (L.foldl (wsp a) (o,false)).1 else (L.foldl (wsp a) (o,false)).1 ++ [a]) = o ++ withA L a:=by
 induction L with
 | nil => intro o; rfl
 | cons p l ih =>
   intro o
   rw [List.foldl_cons]
   by_cases h:a.1 < p.1
   · have e:wsp a (o,false) p = (o ++ [a] ++ [p],true):=by unfold wsp; rw [if_pos ⟨rfl,h⟩]
     rw [e,wst_from,with_lt p l a h]
     simp
   · have e:wsp a (o,false) p = (o ++ [p],false):=by unfold wsp; rw [if_neg (fun h9 => h h9.2)]
     rw [e,ih,with_ge p l a h,List.append_assoc]
     rfl
theorem wst_fin (a:A2) (L:List A2):(if (wst a L).2 = true then (wst a L).1 else (wst a L).1 ++ [a]) = withA L a:=by
 have h:=wst_go a L []
 rw [List.nil_append] at h
 exact h
theorem wst_len (a:A2) (L:List A2):∀ k,(wst a (L.take k)).1.length <= L.length + 1:=by
 have key:∀ (l:List A2) s,(l.foldl (wsp a) s).1.length <= s.1.length + l.length + (if s.2 then 0 else 1):=by
   intro l
   induction l with
   | nil => intro s; show s.1.length <= _; simp
   | cons p l ih =>
     intro s
     rw [List.foldl_cons]
     refine Nat.le_trans (ih _) ?_
     unfold wsp
     obtain ⟨o,d⟩:=s
     cases d
     · by_cases h:a.1 < p.1
       · rw [if_pos ⟨rfl,h⟩]; simp; omega
       · rw [if_neg (fun h9 => h h9.2)]; simp; omega
     · rw [if_neg (by simp)]; simp; omega
 intro k
 have h:=key (L.take k) ([],false)
 have h2:(L.take k).length <= L.length:=by rw [List.length_take]; omega
 show ((L.take k).foldl (wsp a) ([],false)).1.length <= _
 simp at h
 simp at h2
 omega
def At2 (W:World) (b o:Nat) (t:Int) (v:ByteArray):Prop:=W.cell? ⟨b,o,none⟩ = some (.int .i64 t) /\ W.cell? ⟨b,o + 1,none⟩ = some (.string v) /\ b < W.heap.size
theorem At2.since {W W':World} {b o:Nat} {t:Int} {v:ByteArray} (h:At2 W b o t v) (hs:Since W W'):At2 W' b o t v :=
 ⟨(Below.cell hs (p:=⟨b,o,none⟩) h.2.2).trans h.1,(Below.cell hs (p:=⟨b,o + 1,none⟩) h.2.2).trans h.2.1,Nat.lt_of_lt_of_le h.2.2 (Below.size hs)⟩
theorem At2.box (w:World) (t:Int) (v:ByteArray) (ty:TypeId):At2 (w.alloc (.cells #[.int .i64 t,.string v] ty)) w.heap.size 0 t v:=⟨(World.cell?_alloc_new _ _ _ _).trans rfl,(World.cell?_alloc_new _ _ _ _).trans rfl,by simp⟩
theorem AttsS.at2 {w:World} {A:Option Addr} {n c:Nat} {L:List A2} (h:AttsS w (.slice A n c) L) (k:Nat) (y:Int) (s:ByteArray) (hs:L[k]? = some (y,s)):∃ b o,A = some ⟨b,o,none⟩ /\ At2 w b (o + k * 2) y s:=by
 have hk:=(List.getElem?_eq_some_iff.1 hs).1
 obtain ⟨b,o,c9,hv,h1,h2,h3,h4⟩:=h.form (by omega)
 obtain ⟨m0,m1⟩:=h4 k _ hs
 exact ⟨b,o,(Value.slice.inj hv).1,m0,m1,h3⟩
set_option maxHeartbeats 8000000 in
theorem with_core (L:List A2) (t:Int) (v:ByteArray) (hm:L.length <= 1000) (w w1:World) (e1:w1 = w.alloc (.cells #[.int .i64 t,.string v] 39)) (A:Option Addr) (n c g:Nat) (hn:n = L.length) (hg:g = w.heap.size) (hx:AttsS w1 (.slice A n c) L) (hbx:At2 w1 g 0 t v):Calls Tryz.prog 52 #[.slice A n c,.agg #[.int .i64 t,.string v]] w fun e w' => ∃ v',e = .returned v' /\ w'.ownsRow w1.heap.size 39 2 v' (withA L (t,v)).length ((withA L (t,v)).flatMap ac) /\ Since w1 w':=by
 have HX:=lH hx
 have HN:=lH hn
 have HM:=lH hm
 have hnm:n <= 1000:=by omega
 have HW:=lH (wst_len (t,v) L)
 have HBX:=lH hbx
 clear hx hn hbx hm
 go_enter Tryz.func52,Tryz.ntmps52
 go_wp2_with fail
 rw [<- e1,<- hg]
 clear e1 hg
 go_loopw [5,6,7] (fun V d i wr => ∃ k:Nat,k <= n /\ i = .int .i64 (k:Int) /\ d = .bool (wst (t,v) (L.take k)).2 /\ Hid (ARow w1 wr V (wst (t,v) (L.take k)).1) /\ Hid (Since w1 wr)) (fun _ _ i _ => n - (intOf i).toNat)
 case atStart => exact ⟨0,Nat.zero_le _,rfl,rfl,lH (ARow.nil _ _),lH (Since.refl _)⟩
 case round =>
   obtain ⟨k,hk,rfl,rfl,HR,HS⟩:=hrel
   obtain ⟨VA,vc,rfl,-⟩:=HR.out.val
   have hwl:(wst (t,v) (L.take k)).1.length <= 1001:=Nat.le_trans (HW.out k) (by have:=HM.out; omega)
   obtain ⟨n0,n1,-⟩:=HBX.out.since HS.out
   rw [Nat.zero_add] at n1
   obtain ⟨⟨O,d⟩,hO⟩:∃ s,s = wst (t,v) (L.take k):=⟨_,rfl⟩
   by_cases hlt:k < n
   · obtain ⟨⟨y,s⟩,hs⟩:∃ s,L[k]? = some s:=⟨L[k]'(by rw [<- HN.out]; exact hlt),List.getElem?_eq_getElem _⟩
     have hst:=wst_snoc (t,v) L k _ hs
     rw [<- hO] at HR hwl hst ⊢
     dsimp only at HR hwl ⊢
     obtain ⟨b,o,rfl,hax⟩:=AttsS.at2 HX.out k y s hs
     have HAX:=lH hax
     obtain ⟨m0,m1,-⟩:=hax.since HS.out
     have i1:(0:Int) <= (k:Int):=by omega
     have i2:(k:Int) < (n:Int):=by omega
     clear hs hax hO
     cases d
     · by_cases hy:t < y
       · have t1:decide (t < y) = true:=decide_eq_true hy
         have HST:=lH (show wst (t,v) (L.take (k + 1)) = (O ++ [(t,v)] ++ [(y,s)],true) by rw [hst]; unfold wsp; rw [if_pos ⟨rfl,hy⟩])
         clear hst hy
         go_wp2_with fail
         go_quiet (fail)
         replace HR:=lH (HR.out.since (Att.belowN wr nq))
         replace HS:=lH (HS.out.step (Att.belowN wr nq))
         obtain ⟨wz,hwz⟩:∃ W,W = wr.drewN nq:=⟨_,rfl⟩
         rw [<- hwz] at HR HS ⊢
         clear hwz n0 n1 m0 m1
         obtain ⟨n0,n1,-⟩:=HBX.out.since HS.out
         obtain ⟨m0,m1,-⟩:=HAX.out.since HS.out
         rw [Nat.zero_add] at n1
         obtain ⟨O2,hO2⟩:∃ X,X = O ++ [(t,v)]:=⟨_,rfl⟩
         have hl2:O2.length <= 1002:=by rw [hO2,List.length_append]; simp; omega
         rw [<- hO2] at HST
         have HO2:=lH hO2
         have HB1:=lH (show O.length + 1 <= maxLen by unfold maxLen; omega)
         have HB2:=lH (show (O.length + 1) * 24 <= 140737488355328 by omega)
         have HC1:=lH (show O2.length + 1 <= maxLen by unfold maxLen; omega)
         have HC2:=lH (show (O2.length + 1) * 24 <= 140737488355328 by omega)
         have tok1:True:=trivial
         clear hO2
         go_wp2_with (at_builtin; first
           | (have _t:=tok1; refine app_rows elemAt rfl _ _ (by rfl) w1 wz _ rfl [] [] _ _ _ (by rfl) HR.out HS.out #[.int .i64 t,.string v] 1 1 (by rfl) rfl (ac_one (t,v)) HB1.out HB2.out ?_; intro V5 w5 HQ2 HT2 _; have HR5:Hid (ARow w1 w5 V5 O2):=lH (by rw [HO2.out]; exact ARow.app (t,v) HQ2); have HS5:=lH HT2; obtain ⟨VB,vd,rfl,-⟩:=HR5.out.val; obtain ⟨k0,k1,-⟩:=HAX.out.since HT2; clear HQ2 HT2 tok1 m0 m1 n0 n1)
           | (refine app_rows elemAt rfl _ _ (by rfl) w1 w5 _ rfl [] [] _ _ _ (by rfl) HR5.out HS5.out #[.int .i64 y,.string s] 1 1 (by rfl) rfl (ac_one (y,s)) HC1.out HC2.out ?_; intro V6 w6 HQ2 HT2 _))
         have HR6:Hid (ARow w1 w6 V6 (O2 ++ [(y,s)])):=lH (ARow.app (y,s) HQ2)
         have HS6:=lH HT2
         clear HQ2 HT2
         obtain ⟨VC,ve,rfl,-⟩:=HR6.out.val
         have HF:Hid (ARow w1 w6 (.slice VC (O2 ++ [(y,s)]).length ve) (wst (t,v) (L.take (k + 1))).1):=lH (by rw [HST.out]; exact HR6.out)
         go_wp2_with fail
         go_roundw
         case rel => exact ⟨k + 1,by omega,by go_num,by rw [HST.out],HF,HS6⟩
         case measure => (simp [intOf] <;> omega)
       · have t1:decide (t < y) = false:=decide_eq_false hy
         have HST:=lH (show wst (t,v) (L.take (k + 1)) = (O ++ [(y,s)],false) by rw [hst]; unfold wsp; rw [if_neg (fun h9 => hy h9.2)])
         clear hst hy
         go_wp2_with fail
         go_quiet (fail)
         replace HR:=lH (HR.out.since (Att.belowN wr nq))
         replace HS:=lH (HS.out.step (Att.belowN wr nq))
         obtain ⟨wz,hwz⟩:∃ W,W = wr.drewN nq:=⟨_,rfl⟩
         rw [<- hwz] at HR HS ⊢
         clear hwz n0 n1 m0 m1
         obtain ⟨n0,n1,-⟩:=HBX.out.since HS.out
         obtain ⟨m0,m1,-⟩:=HAX.out.since HS.out
         rw [Nat.zero_add] at n1
         have HB1:=lH (show O.length + 1 <= maxLen by (try simp only [List.length_append,List.length_cons,List.length_nil]); unfold maxLen; omega)
         have HB2:=lH (show (O.length + 1) * 24 <= 140737488355328 by (try simp only [List.length_append,List.length_cons,List.length_nil]); omega)
         go_wp2_with (at_builtin; refine app_rows elemAt rfl _ _ (by rfl) w1 wz _ rfl [] [] _ _ _ (by rfl) HR.out HS.out #[.int .i64 y,.string s] 1 1 (by rfl) rfl (ac_one (y,s)) HB1.out HB2.out ?_; intro V6 w6 HQ2 HT2 _)
         have HR6:Hid (ARow w1 w6 V6 (O ++ [(y,s)])):=lH (ARow.app (y,s) HQ2)
         have HS6:=lH HT2
         clear HQ2 HT2 HB1 HB2
         obtain ⟨VC,ve,rfl,-⟩:=HR6.out.val
         have HF:Hid (ARow w1 w6 (.slice VC (O ++ [(y,s)]).length ve) (wst (t,v) (L.take (k + 1))).1):=lH (by rw [HST.out]; exact HR6.out)
         go_wp2_with fail
         go_roundw
         case rel => exact ⟨k + 1,by omega,by go_num,by rw [HST.out],HF,HS6⟩
         case measure => (simp [intOf] <;> omega)
     · have HST:=lH (show wst (t,v) (L.take (k + 1)) = (O ++ [(y,s)],true) by rw [hst]; unfold wsp; rw [if_neg (fun h9 => by cases h9.1)])
       clear hst
       go_wp2_with fail
       go_quiet (fail)
       replace HR:=lH (HR.out.since (Att.belowN wr nq))
       replace HS:=lH (HS.out.step (Att.belowN wr nq))
       obtain ⟨wz,hwz⟩:∃ W,W = wr.drewN nq:=⟨_,rfl⟩
       rw [<- hwz] at HR HS ⊢
       clear hwz n0 n1 m0 m1
       obtain ⟨n0,n1,-⟩:=HBX.out.since HS.out
       obtain ⟨m0,m1,-⟩:=HAX.out.since HS.out
       rw [Nat.zero_add] at n1
       have HB1:=lH (show O.length + 1 <= maxLen by (try simp only [List.length_append,List.length_cons,List.length_nil]); unfold maxLen; omega)
       have HB2:=lH (show (O.length + 1) * 24 <= 140737488355328 by (try simp only [List.length_append,List.length_cons,List.length_nil]); omega)
       go_wp2_with (at_builtin; refine app_rows elemAt rfl _ _ (by rfl) w1 wz _ rfl [] [] _ _ _ (by rfl) HR.out HS.out #[.int .i64 y,.string s] 1 1 (by rfl) rfl (ac_one (y,s)) HB1.out HB2.out ?_; intro V6 w6 HQ2 HT2 _)
       have HR6:Hid (ARow w1 w6 V6 (O ++ [(y,s)])):=lH (ARow.app (y,s) HQ2)
       have HS6:=lH HT2
       clear HQ2 HT2 HB1 HB2
       obtain ⟨VC,ve,rfl,-⟩:=HR6.out.val
       have HF:Hid (ARow w1 w6 (.slice VC (O ++ [(y,s)]).length ve) (wst (t,v) (L.take (k + 1))).1):=lH (by rw [HST.out]; exact HR6.out)
       go_wp2_with fail
       go_roundw
       case rel => exact ⟨k + 1,by omega,by go_num,by rw [HST.out],HF,HS6⟩
       case measure => (simp [intOf] <;> omega)
   · obtain rfl:n = k:=by omega
     have ht:L.take n = L:=by rw [HN.out,List.take_length]
     have hf:=wst_fin (t,v) L
     rw [ht] at HR hO hwl ⊢
     rw [<- hO] at HR hf hwl ⊢
     dsimp only at HR hf hwl ⊢
     clear hO
     cases d
     · have HF:=lH (show O ++ [(t,v)] = withA L (t,v) from hf)
       clear hf
       obtain ⟨wz,hwz⟩:∃ W,W = wr:=⟨_,rfl⟩
       rw [<- hwz] at HR HS n0 n1 ⊢
       clear hwz
       have HB1:=lH (show O.length + 1 <= maxLen by (try simp only [List.length_append,List.length_cons,List.length_nil]); unfold maxLen; omega)
       have HB2:=lH (show (O.length + 1) * 24 <= 140737488355328 by (try simp only [List.length_append,List.length_cons,List.length_nil]); omega)
       go_wp2_with (at_builtin; refine app_rows elemAt rfl _ _ (by rfl) w1 wz _ rfl [] [] _ _ _ (by rfl) HR.out HS.out #[.int .i64 t,.string v] 1 1 (by rfl) rfl (ac_one (t,v)) HB1.out HB2.out ?_; intro V5 w5 HQ2 HT2 _)
       have HR5:Hid (ARow w1 w5 V5 (O ++ [(t,v)])):=lH (ARow.app (t,v) HQ2)
       have HS5:=lH HT2
       clear HQ2 HT2 HB1 HB2
       have HO:=lH HR5.out.get
       rw [HF.out] at HO
       go_wp2_with fail
       go_ret
       exact ⟨_,rfl,HO.out,HS5.out⟩
     · have HF:=lH (show O = withA L (t,v) from hf)
       clear hf
       have HO:=lH HR.out.get
       rw [HF.out] at HO ⊢
       go_wp2_with fail
       go_ret
       exact ⟨_,rfl,HO.out,HS.out⟩
theorem with_mk (L:List A2) (t:Int) (v:ByteArray) (hm:L.length <= 1000) (w:World) (x:Value) (hx:AttsS w x L):Calls Tryz.prog 52 #[x,.agg #[.int .i64 t,.string v]] w fun e w' => ∃ v',e = .returned v' /\ w'.ownsRow w.heap.size 39 2 v' (withA L (t,v)).length ((withA L (t,v)).flatMap ac) /\ Since w w':=by
 obtain ⟨A,c,rfl,-,-⟩:=hx.slice
 have hs:=(Since.refl w).alloc (.cells #[.int .i64 t,.string v] 39)
 refine (with_core L t v hm w _ rfl A _ c _ rfl rfl (hx.since hs) (At2.box w t v 39)).mono ?_
 rintro _ w' ⟨v',rfl,h1,h2⟩
 exact ⟨v',rfl,Tree.own_base h1 (Below.size hs),hs.step h2⟩
def setR (L:List A2) (t:Int) (v:ByteArray):List A2 × Int:=if attOk L = false then ([],11) else if attOk (setA L (t,v)) = false then ([],11) else (setA L (t,v),0)
def drpR (L:List A2) (t:Int):List A2 × Int:=if attOk L = false then ([],11) else if (getP L t).isNone then ([],15) else (dropA L t,0)
theorem setR_1 {L:List A2} (t:Int) (v:ByteArray) (h:attOk L = false):setR L t v = ([],11):=by unfold setR; rw [if_pos h]
theorem setR_2 {L:List A2} {t:Int} {v:ByteArray} (h:attOk L = true) (h2:attOk (setA L (t,v)) = false):setR L t v = ([],11):=by unfold setR; rw [if_neg (by rw [h]; decide),if_pos h2]
theorem setR_3 {L:List A2} {t:Int} {v:ByteArray} (h:attOk L = true) (h2:attOk (setA L (t,v)) = true):setR L t v = (setA L (t,v),0):=by unfold setR; rw [if_neg (by rw [h]; decide),if_neg (by rw [h2]; decide)]
theorem attE_no {L:List A2} (h:attOk L = false):attE L = 11:=by unfold attE; rw [h]; rfl
theorem attE_yes {L:List A2} (h:attOk L = true):attE L = 0:=(attE_zero L).2 h
theorem set_len (L:List A2) (a:A2):(setA L a).length <= L.length + 1:=by
 unfold setA
 rw [(with_perm _ a).length_eq,List.length_cons]
 have:=drop_len L a.1
 omega
def AtR (f:Nat) (L:List A2) (args:Value -> Array Value) (r:List A2 × Int):Prop:=∀ w x,AttsS w x L -> Calls Tryz.prog f (args x) w fun e w' => ∃ y,e = .returned (.tuple #[y,.int .i64 r.2]) /\ AttsS w' y r.1 /\ Since w w'
theorem rset_1 (L:List A2) (t:Int) (v:ByteArray) (c1:RdA 51 L (fun x => #[x]) (.int .i64 11)):AtR 25 L (fun x => #[x,.int .i64 t,.string v]) ([],11):=by
 intro w x hx
 obtain ⟨A,c,rfl,-,-⟩:=hx.slice
 obtain ⟨n,hn⟩:∃ n,n = L.length:=⟨_,rfl⟩
 rw [<- hn]
 rw [<- hn] at hx
 have HX:=lH hx
 have HS:=lH (Since.refl w)
 have HN:=lH hn
 clear hx hn
 go_enter Tryz.func25,Tryz.ntmps25
 go_wp2_with fail
 refine c1.calls0 HX.out ?_
 intro w1 h1
 replace HS:=lH (HS.out.step h1)
 replace HX:=lH (HX.out.since h1)
 clear h1
 go_wp2_with fail
 go_ret2
 exact ⟨_,rfl,AttsS.nil _,HS.out⟩
theorem rset_2 (L:List A2) (t:Int) (v:ByteArray) (hm:L.length <= 1000) (c1:RdA 51 L (fun x => #[x]) (.int .i64 0)) (E:Int) (R:List A2) (hR:(E != 0) = true /\ R = [] ∨ (E != 0) = false /\ R = setA L (t,v)) (hE:E = 0 ∨ E = 11) (c2:RdA 51 (setA L (t,v)) (fun x => #[x]) (.int .i64 E)):AtR 25 L (fun x => #[x,.int .i64 t,.string v]) (R,E):=by
 intro w x hx
 obtain ⟨A,c,rfl,-,-⟩:=hx.slice
 obtain ⟨n,hn⟩:∃ n,n = L.length:=⟨_,rfl⟩
 rw [<- hn]
 rw [<- hn] at hx
 have HX:=lH hx
 have HS:=lH (Since.refl w)
 have HN:=lH hn
 clear hx hn
 go_enter Tryz.func25,Tryz.ntmps25
 go_wp2_with fail
 refine c1.calls0 HX.out ?_
 intro w1 h1
 replace HS:=lH (HS.out.step h1)
 replace HX:=lH (HX.out.since h1)
 clear h1
 go_wp2_with fail
 refine (without_mk L t hm _ _ HX.out).mono ?_
 rintro _ w2 ⟨v2,rfl,hv2,h2⟩
 obtain ⟨A2,q2,rfl,-,-⟩:=hv2.slice
 replace HS:=lH (HS.out.step h2)
 replace HX:=lH (HX.out.since h2)
 clear h2
 have HV:=lH hv2
 have hl:=Nat.le_trans (drop_len L t) hm
 clear hv2
 go_wp2_with fail
 refine (with_mk (dropA L t) t v hl _ _ HV.out).mono ?_
 rintro _ w3 ⟨v3,rfl,ho3,h3⟩
 have hv3:AttsS w3 v3 (setA L (t,v)):=AttsS.own ho3
 obtain ⟨A3,q3,rfl,-,-⟩:=hv3.slice
 obtain ⟨n3,hn3⟩:∃ n,n = (setA L (t,v)).length:=⟨_,rfl⟩
 rw [<- hn3] at hv3 ⊢
 replace HS:=lH (HS.out.step h3)
 replace HX:=lH (HX.out.since h3)
 clear h3
 have HV3:=lH hv3
 clear hv3 ho3 HV hl hn3
 go_wp2_with fail
 refine c2.calls0 HV3.out ?_
 intro w4 h4
 replace HV3:=lH (HV3.out.since h4)
 replace HS:=lH (HS.out.step h4)
 replace HX:=lH (HX.out.since h4)
 clear h4
 have HRR:=lH hR
 rcases hR with ⟨t9,-⟩ | ⟨t9,-⟩
 · have HE:=lH hE
   clear hE
   go_wp2_with fail
   go_ret2
   obtain ⟨g1,rfl⟩ | ⟨g1,-⟩:=HRR.out
   · obtain rfl | rfl:=HE.out
     · exact absurd g1 (by decide)
     · exact ⟨_,rfl,AttsS.nil _,HS.out⟩
   · rw [t9] at g1; cases g1
 · have HE:=lH hE
   clear hE
   go_wp2_with fail
   go_ret2
   obtain ⟨g1,-⟩ | ⟨-,rfl⟩:=HRR.out
   · rw [t9] at g1; cases g1
   · obtain rfl | rfl:=HE.out
     · exact ⟨_,rfl,HV3.out,HS.out⟩
     · exact absurd t9 (by decide)
theorem rset_mk (L:List A2) (t:Int) (v:ByteArray) (hm:L.length <= 1000) (r:List A2 × Int) (hr:r = setR L t v):AtR 25 L (fun x => #[x,.int .i64 t,.string v]) r:=by
 subst hr
 cases h:attOk L with
 | false =>
   rw [setR_1 t v h]
   exact rset_1 L t v (rcheck_rd L _ (attE_no h).symm)
 | true =>
   have c1:=rcheck_rd L _ (attE_yes h).symm
   cases h2:attOk (setA L (t,v)) with
   | false =>
     rw [setR_2 h h2]
     exact rset_2 L t v hm c1 11 [] (Or.inl ⟨rfl,rfl⟩) (Or.inr rfl) (rcheck_rd _ _ (attE_no h2).symm)
   | true =>
     rw [setR_3 h h2]
     exact rset_2 L t v hm c1 0 _ (Or.inr ⟨rfl,rfl⟩) (Or.inl rfl) (rcheck_rd _ _ (attE_yes h2).symm)
theorem drpR_1 {L:List A2} (t:Int) (h:attOk L = false):drpR L t = ([],11):=by unfold drpR; rw [if_pos h]
theorem drpR_2 {L:List A2} {t:Int} (h:attOk L = true) (h2:getB L t = false):drpR L t = ([],15):=by
 unfold drpR
 unfold getB at h2
 rw [if_neg (by rw [h]; decide),if_pos (by rw [Option.isNone_iff_eq_none,<- Option.not_isSome_iff_eq_none,h2]; decide)]
theorem drpR_3 {L:List A2} {t:Int} (h:attOk L = true) (h2:getB L t = true):drpR L t = (dropA L t,0):=by
 unfold drpR
 unfold getB at h2
 rw [if_neg (by rw [h]; decide),if_neg (by rw [Option.isNone_iff_eq_none]; intro h9; rw [h9] at h2; cases h2)]
theorem rdrop_1 (L:List A2) (t:Int) (c1:RdA 51 L (fun x => #[x]) (.int .i64 11)):AtR 28 L (fun x => #[x,.int .i64 t]) ([],11):=by
 intro w x hx
 obtain ⟨A,c,rfl,-,-⟩:=hx.slice
 obtain ⟨n,hn⟩:∃ n,n = L.length:=⟨_,rfl⟩
 rw [<- hn]
 rw [<- hn] at hx
 have HX:=lH hx
 have HS:=lH (Since.refl w)
 have HN:=lH hn
 clear hx hn
 go_enter Tryz.func28,Tryz.ntmps28
 go_wp2_with fail
 refine c1.calls0 HX.out ?_
 intro w1 h1
 replace HS:=lH (HS.out.step h1)
 replace HX:=lH (HX.out.since h1)
 clear h1
 go_wp2_with fail
 go_ret2
 exact ⟨_,rfl,AttsS.nil _,HS.out⟩
theorem rdrop_2 (L:List A2) (t:Int) (S:ByteArray) (c1:RdA 51 L (fun x => #[x]) (.int .i64 0)) (c2:RdA 55 L (fun x => #[x,.int .i64 t]) (.tuple #[.string S,.bool false])):AtR 28 L (fun x => #[x,.int .i64 t]) ([],15):=by
 intro w x hx
 obtain ⟨A,c,rfl,-,-⟩:=hx.slice
 obtain ⟨n,hn⟩:∃ n,n = L.length:=⟨_,rfl⟩
 rw [<- hn]
 rw [<- hn] at hx
 have HX:=lH hx
 have HS:=lH (Since.refl w)
 have HN:=lH hn
 clear hx hn
 go_enter Tryz.func28,Tryz.ntmps28
 go_wp2_with fail
 refine c1.calls0 HX.out ?_
 intro w1 h1
 replace HS:=lH (HS.out.step h1)
 replace HX:=lH (HX.out.since h1)
 clear h1
 go_wp2_with fail
 refine c2.calls0 HX.out ?_
 intro w2 h2
 replace HS:=lH (HS.out.step h2)
 replace HX:=lH (HX.out.since h2)
 clear h2
 go_wp2_with fail
 go_ret2
 exact ⟨_,rfl,AttsS.nil _,HS.out⟩
theorem rdrop_3 (L:List A2) (t:Int) (hm:L.length <= 1000) (S:ByteArray) (c1:RdA 51 L (fun x => #[x]) (.int .i64 0)) (c2:RdA 55 L (fun x => #[x,.int .i64 t]) (.tuple #[.string S,.bool true])):AtR 28 L (fun x => #[x,.int .i64 t]) (dropA L t,0):=by
 intro w x hx
 obtain ⟨A,c,rfl,-,-⟩:=hx.slice
 obtain ⟨n,hn⟩:∃ n,n = L.length:=⟨_,rfl⟩
 rw [<- hn]
 rw [<- hn] at hx
 have HX:=lH hx
 have HS:=lH (Since.refl w)
 have HN:=lH hn
 clear hx hn
 go_enter Tryz.func28,Tryz.ntmps28
 go_wp2_with fail
 refine c1.calls0 HX.out ?_
 intro w1 h1
 replace HS:=lH (HS.out.step h1)
 replace HX:=lH (HX.out.since h1)
 clear h1
 go_wp2_with fail
 refine c2.calls0 HX.out ?_
 intro w2 h2
 replace HS:=lH (HS.out.step h2)
 replace HX:=lH (HX.out.since h2)
 clear h2
 go_wp2_with fail
 refine (without_mk L t hm _ _ HX.out).mono ?_
 rintro _ w3 ⟨v3,rfl,hv3,h3⟩
 have HV:=lH hv3
 obtain ⟨A3,q3,rfl,-,-⟩:=hv3.slice
 replace HS:=lH (HS.out.step h3)
 replace HX:=lH (HX.out.since h3)
 clear h3
 clear hv3
 go_wp2_with fail
 go_ret2
 exact ⟨_,rfl,HV.out,HS.out⟩
theorem rdrop_mk (L:List A2) (t:Int) (hm:L.length <= 1000) (r:List A2 × Int) (hr:r = drpR L t):AtR 28 L (fun x => #[x,.int .i64 t]) r:=by
 subst hr
 cases h:attOk L with
 | false =>
   rw [drpR_1 t h]
   exact rdrop_1 L t (rcheck_rd L _ (attE_no h).symm)
 | true =>
   have c1:=rcheck_rd L _ (attE_yes h).symm
   have c2:=rget_rd L t
   unfold getV at c2
   cases h2:getB L t with
   | false =>
     rw [drpR_2 h h2]
     rw [h2] at c2
     exact rdrop_2 L t _ c1 c2
   | true =>
     rw [drpR_3 h h2]
     rw [h2] at c2
     exact rdrop_3 L t hm _ c1 c2
end Atf
namespace Atf
open Att Rw Atm Tlv
theorem fl_drop (L:List A2) (j:Nat) (hj:j <= L.length):(L.flatMap ac).drop (j * 2) = (L.drop j).flatMap ac:=by
 conv => lhs; rw [<- List.take_append_drop j L,List.flatMap_append]
 have:j * 2 = ((L.take j).flatMap ac).length:=by rw [fl_len,List.length_take,Nat.min_eq_left hj]
 rw [this,List.drop_left]
theorem fl_take (L:List A2) (j:Nat) (hj:j <= L.length):(L.flatMap ac).take (j * 2) = (L.take j).flatMap ac:=by
 conv => lhs; rw [<- List.take_append_drop j L,List.flatMap_append]
 have:j * 2 = ((L.take j).flatMap ac).length:=by rw [fl_len,List.length_take,Nat.min_eq_left hj]
 rw [this,List.take_left]
theorem at_under:Tryz.prog.underlying 22 = some (.slice (Tryz.prog.elem 22)):=by simp [Program.elem,Tryz.underlying22]
theorem at_el:Tryz.prog.elem 22 = 39:=by simp [Program.elem,Tryz.underlying22]
theorem at_size (W:World):(Go.sizeOf 39).run Tryz.prog W = .ok 2 W:=by
 obtain ⟨ht,hi,hz,hs0⟩:=elemAt
 obtain ⟨i,hi1,hi2⟩:=Option.map_eq_some_iff.1 hi
 simp only [Prod.mk.injEq] at hi2
 simp [Go.sizeOf,Go.typeInfo,hi1,hi2.2.1]
theorem AttsS.head {w:World} {A:Option Addr} {n c:Nat} {L:List A2} (h:AttsS w (.slice A n c) L) (j:Nat) (hj:j <= L.length) :
   ∃ A',AttsS w (.slice A' j c) (L.take j) /\ ∀ W,(Instr.slice 22 (.slice A n c) none (some (.int .i64 (j:Int))) none).run Tryz.prog W = .ok (.slice A' j c) W:=by
 have hln:(L.take j).length = j:=by rw [List.length_take,Nat.min_eq_left hj]
 obtain ⟨_,A9,c9,h9,h1,h2,h3⟩:=h
 obtain ⟨rfl,-,rfl⟩:=Value.slice.inj h9
 refine ⟨if c = 0 then A else A.map (·.add (0 * 2)),⟨by rw [fl_len],_,_,by rw [hln],by omega,by omega, ?_⟩,fun W => ?_⟩
 · by_cases h0:j = 0
   · exact Or.inl (by omega)
   · rcases h3 with h3 | ⟨b,o,rfl,hlt,hc⟩
     · omega
     · refine Or.inr ⟨b,o, ?_,hlt,fun i u hu => ?_⟩
       · rw [if_neg (by omega)]; simp [Addr.add]
       · rw [<- fl_take L j hj,List.getElem?_take] at hu
         split at hu
         · exact hc _ _ hu
         · cases hu
 · rw [run_slice_h W 22 _ _ _ at_under .i64 _ (by omega) (by omega),at_el,at_size]
   simp only [Result.andThen,sliced,Int.toNat_natCast,Nat.sub_zero]
theorem AttsS.tail {w:World} {A:Option Addr} {n c:Nat} {L:List A2} (h:AttsS w (.slice A n c) L) (j m:Nat) (hj:j + m = L.length) :
   ∃ A' d,AttsS w (.slice A' m d) (L.drop j) /\ ∀ W,(Instr.slice 22 (.slice A n c) (some (.int .i64 (j:Int))) none none).run Tryz.prog W = .ok (.slice A' m d) W:=by
 have hln:(L.drop j).length = m:=by rw [List.length_drop]; omega
 obtain ⟨_,A9,c9,h9,h1,h2,h3⟩:=h
 obtain ⟨rfl,rfl,rfl⟩:=Value.slice.inj h9
 refine ⟨if c = j then A else A.map (·.add (j * 2)),c - j,⟨by rw [fl_len],_,_,by rw [hln],by omega,by omega, ?_⟩,fun W => ?_⟩
 · by_cases h0:m = 0
   · exact Or.inl (by omega)
   · rcases h3 with h3 | ⟨b,o,rfl,hlt,hc⟩
     · omega
     · refine Or.inr ⟨b,o + j * 2, ?_,hlt,fun i u hu => ?_⟩
       · rw [if_neg (by omega)]
         by_cases hj:j = 0
         · simp [Addr.add,hj]
         · simp [Addr.add,show ¬ (j * 2 = 0) by omega]
       · rw [<- fl_drop L j (by omega),List.getElem?_drop] at hu
         rw [Nat.add_assoc]
         exact hc _ _ hu
 · rw [run_slice_l W 22 _ _ _ at_under .i64 _ (by omega) (by omega),at_el,at_size]
   simp only [Result.andThen,sliced,Int.toNat_natCast]
   rw [show L.length - j = m from by omega]
theorem attss_lit (W:World) (vs:List Value) (Ls:List (List A2)) (hl:vs.length = Ls.length) (hm:Ls.length <= 1000) (h:∀ (j:Nat) x L,vs[j]? = some x -> Ls[j]? = some L -> AttsS W x L) (C:Array Value) (hC:C = vs.toArray) (t:TypeId) :
   AttssS (W.alloc (.cells C t)) (.slice (some ⟨W.heap.size,0,none⟩) Ls.length Ls.length) Ls :=
 ⟨vs,SlR.lit W 1 Ls.length vs (by omega) (by unfold maxLen; omega) C hC t,fun j x L hx hL => (h j x L hx hL).since ((Since.refl W).alloc _)⟩
theorem atts_one (W:World) (t:Int) (v:ByteArray) (ty:TypeId):AttsS (W.alloc (.cells #[.int .i64 t,.string v] ty)) (.slice (some ⟨W.heap.size,0,none⟩) 1 1) [(t,v)]:=SlR.lit W 2 1 (ac (t,v)) rfl (by decide) #[.int .i64 t,.string v] rfl ty
structure KB (wr:World) (g:Nat) (t:Int):Prop where
 lt:g < wr.heap.size
 cell:wr.cell? ⟨g,0,none⟩ = some (.int .i64 t)
theorem KB.at_ {wr W:World} {g:Nat} {t:Int} (h:KB wr g t) (hs:Since wr W):W.cell? ⟨g,0,none⟩ = some (.int .i64 t):=(Below.cell hs (p:=⟨g,0,none⟩) h.lt).trans h.cell
theorem drew_since (w:World):Since w w.drew:=⟨rfl,rfl,rfl,Nat.le_refl _,fun _ _ => rfl⟩
end Atf
namespace Atf
open Att Rw Atm Tlv
theorem set_1 (L:List A2) (t:Int) (v:ByteArray) (E:Int) (hE:(E != 0) = true) (c1:RdA 38 L (fun x => #[x]) (.int .i64 E)):AtR 23 L (fun x => #[x,.int .i64 t,.string v]) ([],E):=by
 intro w x hx
 obtain ⟨A,c,rfl,-,-⟩:=hx.slice
 obtain ⟨n,hn⟩:∃ n,n = L.length:=⟨_,rfl⟩
 rw [<- hn]
 rw [<- hn] at hx
 have HT:=lH (show KN w.heap.size t (w.alloc (.cells #[.int .i64 t] 3)) from ⟨(World.cell?_alloc_new _ _ _ _).trans rfl,by simp⟩)
 have HS:=lH ((Since.refl w).alloc (.cells #[.int .i64 t] 3))
 have HX:=lH (hx.since ((Since.refl w).alloc (.cells #[.int .i64 t] 3)))
 have HN:=lH hn
 clear hx hn
 go_enter Tryz.func23,Tryz.ntmps23
 go_wp2_with fail
 refine c1.calls0 HX.out ?_
 intro w1 h1
 replace HT:=lH (Kp.keep HT.out h1)
 replace HS:=lH (HS.out.step h1)
 replace HX:=lH (HX.out.since h1)
 clear h1
 go_wp2_with fail
 go_ret2
 exact ⟨_,rfl,AttsS.nil _,HS.out⟩
set_option maxHeartbeats 8000000 in
theorem set_2 (L:List A2) (t:Int) (v:ByteArray) (_hm:L.length <= 900) (c1:RdA 38 L (fun x => #[x]) (.int .i64 0)) (i j m:Nat) (hi:i <= L.length) (hj:j + m = L.length) (ci:∀ g,RdG 47 g t L i) (cj:∀ g,RdG 48 g t L j) (O:List A2) (hO:L.take i ++ [(t,v)] ++ L.drop j = O) (hO2:O.length <= 1000) (E:Int) (R:List A2) (hR:(E != 0) = true /\ R = [] ∨ (E != 0) = false /\ R = O) (hE:E = 0 ∨ E = 11) (c2:RdA 38 O (fun x => #[x]) (.int .i64 E)):AtR 23 L (fun x => #[x,.int .i64 t,.string v]) (R,E):=by
 intro w x hx
 obtain ⟨A,c,rfl,-,-⟩:=hx.slice
 obtain ⟨n,hn⟩:∃ n,n = L.length:=⟨_,rfl⟩
 rw [<- hn]
 rw [<- hn] at hx
 have HT:=lH (show KN w.heap.size t (w.alloc (.cells #[.int .i64 t] 3)) from ⟨(World.cell?_alloc_new _ _ _ _).trans rfl,by simp⟩)
 have HS:=lH ((Since.refl w).alloc (.cells #[.int .i64 t] 3))
 have HX:=lH (hx.since ((Since.refl w).alloc (.cells #[.int .i64 t] 3)))
 have HN:=lH hn
 clear hx hn
 go_enter Tryz.func23,Tryz.ntmps23
 go_wp2_with fail
 refine c1.calls0 HX.out ?_
 intro w1 h1
 replace HT:=lH (Kp.keep HT.out h1)
 replace HS:=lH (HS.out.step h1)
 replace HX:=lH (HX.out.since h1)
 clear h1
 go_wp2_with fail
 refine (ci _ _ _ HT.out HX.out).mono ?_
 rintro _ w2 ⟨rfl,h2⟩
 replace HT:=lH (Kp.keep HT.out h2)
 replace HS:=lH (HS.out.step h2)
 replace HX:=lH (HX.out.since h2)
 clear h2
 go_wp2_with fail
 refine (cj _ _ _ HT.out HX.out).mono ?_
 rintro _ w3 ⟨rfl,h3⟩
 replace HT:=lH (Kp.keep HT.out h3)
 replace HS:=lH (HS.out.step h3)
 replace HX:=lH (HX.out.since h3)
 clear h3
 obtain ⟨A1,hA1,r1⟩:=AttsS.head HX.out i hi
 obtain ⟨A2,d2,hA2,r2⟩:=AttsS.tail HX.out j m hj
 have HA1:=lH hA1
 have HA2:=lH hA2
 obtain ⟨g,hg⟩:∃ g,g = w.heap.size:=⟨_,rfl⟩
 rw [<- hg] at HT ⊢
 have HPF:=lH (show KB w3 g t from ⟨HT.out.2,HT.out.1⟩)
 clear hA1 hA2 hg
 go_wp2_with fail
 have HB:Hid (Since w3 w3):=lH (Since.refl w3)
 refine RegW.start (fun W' => Hid (Since w3 W') /\ W'.cell? ⟨g,0,none⟩ = some (.int .i64 t)) 12 (by kernel_rfl) ⟨lH (HB.out.step (drew_since _)),HPF.out.at_ (HB.out.step (drew_since _))⟩ (fun hHeld => ?_)
 replace HB:=lH (HB.out.step (drew_since w3))
 obtain ⟨wa,hwa⟩:∃ W,W = w3.drew:=⟨_,rfl⟩
 rw [<- hwa] at HB hHeld ⊢
 clear hwa
 refine RegW.take (i:=0) (v:=?_) rfl (by kernel_rfl) (by kernel_rfl) (by kernel_rfl) (by kernel_rfl) (fun _ _ _ h => h) (Or.inl ⟨by kernel_rfl, ?_⟩) (by assumption) ?_
 rotate_left
 · intro w hSw
   go_split_ands
   go_simp
   try with_reducible rfl
 try simp only [Act.put]
 try simp only [List.setIfInBounds_toArray]
 try simp only [List.set_cons_succ]
 try simp only [List.set_cons_zero]
 refine RegW.take (i:=1) (v:=?_) rfl (by kernel_rfl) (by kernel_rfl) (by kernel_rfl) (by kernel_rfl) (fun _ _ _ h => h) (Or.inl ⟨by kernel_rfl, ?_⟩) (by assumption) ?_
 rotate_left
 · intro w hSw
   go_split_ands
   go_simp
   try with_reducible rfl
 try simp only [Act.put]
 try simp only [List.setIfInBounds_toArray]
 try simp only [List.set_cons_succ]
 try simp only [List.set_cons_zero]
 refine RegW.take (i:=2) (v:=?_) rfl (by kernel_rfl) (by kernel_rfl) (by kernel_rfl) (by kernel_rfl) (fun _ _ _ h => h) (Or.inl ⟨by kernel_rfl, ?_⟩) (by assumption) ?_
 rotate_left
 · intro w hSw
   go_split_ands
   go_simp
   try with_reducible rfl
 try simp only [Act.put]
 try simp only [List.setIfInBounds_toArray]
 try simp only [List.set_cons_succ]
 try simp only [List.set_cons_zero]
 refine RegW.take (i:=3) (v:=?_) rfl (by kernel_rfl) (by kernel_rfl) (by kernel_rfl) (by kernel_rfl) (fun _ _ _ h => h) (Or.inl ⟨by kernel_rfl, ?_⟩) (by assumption) ?_
 rotate_left
 · intro w hSw
   go_split_ands
   go_simp
   try with_reducible rfl
 try simp only [Act.put]
 try simp only [List.setIfInBounds_toArray]
 try simp only [List.set_cons_succ]
 try simp only [List.set_cons_zero]
 refine RegW.take (i:=4) (v:=?_) rfl (by kernel_rfl) (by kernel_rfl) (by kernel_rfl) (by kernel_rfl) (fun _ _ _ h => h) (Or.inl ⟨by kernel_rfl, ?_⟩) (by assumption) ?_
 rotate_left
 · intro w hSw
   go_split_ands
   go_simp
   try with_reducible rfl
 try simp only [Act.put]
 try simp only [List.setIfInBounds_toArray]
 try simp only [List.set_cons_succ]
 try simp only [List.set_cons_zero]
 refine RegW.take (i:=5) (v:=?_) rfl (by kernel_rfl) (by kernel_rfl) (by kernel_rfl) (by kernel_rfl) (fun _ _ _ h => h) (Or.inl ⟨by kernel_rfl, ?_⟩) (by assumption) ?_
 rotate_left
 · intro w hSw
   go_split_ands
   go_simp
   try with_reducible rfl
 try simp only [Act.put]
 try simp only [List.setIfInBounds_toArray]
 try simp only [List.set_cons_succ]
 try simp only [List.set_cons_zero]
 refine RegW.take (i:=7) (v:=?_) rfl (by kernel_rfl) (by kernel_rfl) (by kernel_rfl) (by kernel_rfl) (fun _ _ _ h => h) (Or.inl ⟨by kernel_rfl, ?_⟩) (by assumption) ?_
 rotate_left
 · intro w hSw
   go_split_ands
   go_simp
   try with_reducible rfl
 try simp only [Act.put]
 try simp only [List.setIfInBounds_toArray]
 try simp only [List.set_cons_succ]
 try simp only [List.set_cons_zero]
 refine RegW.take (i:=8) (v:=?_) rfl (by kernel_rfl) (by kernel_rfl) (by kernel_rfl) (by kernel_rfl) (fun _ _ _ h => h) (Or.inl ⟨by kernel_rfl, ?_⟩) (by assumption) ?_
 rotate_left
 · intro w hSw
   go_split_ands
   go_simp
   try with_reducible rfl
 try simp only [Act.put]
 try simp only [List.setIfInBounds_toArray]
 try simp only [List.set_cons_succ]
 try simp only [List.set_cons_zero]
 refine RegW.take (i:=9) (v:=?_) rfl (by kernel_rfl) (by kernel_rfl) (by kernel_rfl) (by kernel_rfl) (fun _ _ _ h => h) (Or.inl ⟨by kernel_rfl, ?_⟩) (by assumption) ?_
 rotate_left
 · intro w hSw
   go_split_ands
   go_simp
   try with_reducible rfl
 try simp only [Act.put]
 try simp only [List.setIfInBounds_toArray]
 try simp only [List.set_cons_succ]
 try simp only [List.set_cons_zero]
 refine RegW.only (i:=6) rfl (by kernel_rfl) (fun K hK => ?_)
 go_simp
 refine hK.out _ _ ⟨lH (HB.out.alloc (.cells #[.int .i64 t,.string v] 39)),HPF.out.at_ (HB.out.alloc _)⟩ (fun hHeld => ?_)
 clear hK K
 try simp only [Act.put]
 try simp only [List.setIfInBounds_toArray]
 try simp only [List.set_cons_succ]
 try simp only [List.set_cons_zero]
 have HO1:=lH (atts_one wa t v 39)
 replace HB:=lH (HB.out.alloc (.cells #[.int .i64 t,.string v] 39))
 obtain ⟨gb,hgb⟩:∃ g,g = wa.heap.size:=⟨_,rfl⟩
 rw [<- hgb] at HO1 ⊢
 obtain ⟨wb,hwb⟩:∃ W,W = wa.alloc (.cells #[.int .i64 t,.string v] 39):=⟨_,rfl⟩
 rw [<- hwb] at HB hHeld HO1 ⊢
 clear hwb hgb
 refine RegW.only (i:=10) rfl (by kernel_rfl) (fun K hK => ?_)
 go_simp
 refine hK.out _ _ ⟨lH (HB.out.alloc (.cells #[.slice A1 i c,.slice (some ⟨gb,0,none⟩) 1 1,.slice A2 m d2] 22)),HPF.out.at_ (HB.out.alloc _)⟩ (fun hHeld => ?_)
 clear hK K
 try simp only [Act.put]
 try simp only [List.setIfInBounds_toArray]
 try simp only [List.set_cons_succ]
 try simp only [List.set_cons_zero]
 have HLS:=lH (attss_lit wb [.slice A1 i c,.slice (some ⟨gb,0,none⟩) 1 1,.slice A2 m d2] [L.take i,[(t,v)],L.drop j] rfl (by show 3 <= 1000; omega) (fun q x M hx hM => by
   have hq:q < 3:=by have:=(List.getElem?_eq_some_iff.1 hx).1; simpa using this
   match q,hq with
   | 0,_ => cases hx; cases hM; exact HA1.out.since HB.out
   | 1,_ => cases hx; cases hM; exact HO1.out
   | 2,_ => cases hx; cases hM; exact HA2.out.since HB.out) #[.slice A1 i c,.slice (some ⟨gb,0,none⟩) 1 1,.slice A2 m d2] rfl 22)
 replace HB:=lH (HB.out.alloc (.cells #[.slice A1 i c,.slice (some ⟨gb,0,none⟩) 1 1,.slice A2 m d2] 22))
 refine RegW.only (i:=11) rfl (by kernel_rfl) (fun K hK => ?_)
 go_simp
 go_at_call 49
 have hfl:[L.take i,[(t,v)],L.drop j].flatten = O:=by rw [<- hO]; simp
 refine (concat_mk [L.take i,[(t,v)],L.drop j] (by show 0 < 3; omega) (by show 3 <= 10; omega) (by rw [hfl]; exact hO2) _ _ HLS.out).mono ?_
 rintro _ w9 ⟨v9,rfl,ho9,h9⟩
 rw [hfl] at ho9
 have hv9:AttsS w9 v9 O:=AttsS.own ho9
 obtain ⟨A9,q9,rfl,-,-⟩:=hv9.slice
 obtain ⟨n9,hn9⟩:∃ n,n = O.length:=⟨_,rfl⟩
 rw [<- hn9] at hv9 ⊢
 have HV9:=lH hv9
 replace HB:=lH (HB.out.step h9)
 clear h9 ho9 hv9 hfl hn9
 refine hK.out _ _ ⟨HB,HPF.out.at_ HB.out⟩ (fun hHeld => ?_)
 clear hK K
 try simp only [Act.put]
 try simp only [List.setIfInBounds_toArray]
 try simp only [List.set_cons_succ]
 try simp only [List.set_cons_zero]
 refine RegW.last rfl (by kernel_rfl) (by kernel_rfl) ?_
 clear hHeld
 replace HS:=lH (HS.out.step HB.out)
 clear HB HT HX HLS HO1
 go_wp2_with fail
 refine c2.calls0 HV9.out ?_
 intro wx hx
 replace HS:=lH (HS.out.step hx)
 replace HV9:=lH (HV9.out.since hx)
 have HRR:=lH hR
 have HE:=lH hE
 clear hx hE
 rcases hR with ⟨t9,-⟩ | ⟨t9,-⟩
 · go_wp2_with fail
   go_ret2
   obtain ⟨g1,rfl⟩ | ⟨g1,-⟩:=HRR.out
   · exact ⟨_,rfl,AttsS.nil _,HS.out⟩
   · rw [t9] at g1; cases g1
 · go_wp2_with fail
   go_ret2
   obtain ⟨g1,-⟩ | ⟨-,rfl⟩:=HRR.out
   · rw [t9] at g1; cases g1
   · obtain rfl | rfl:=HE.out
     · exact ⟨_,rfl,HV9.out,HS.out⟩
     · exact absurd t9 (by decide)
theorem set_mk (L:List A2) (t:Int) (v:ByteArray) (hm:L.length <= 900) (r:List A2 × Int) (hr:r = setR L t v):AtR 23 L (fun x => #[x,.int .i64 t,.string v]) r:=by
 subst hr
 cases h:attOk L with
 | false =>
   rw [setR_1 t v h]
   exact set_1 L t v 11 rfl (check_rd L _ (attE_no h).symm)
 | true =>
   have c1:=check_rd L _ (attE_yes h).symm
   have hi:L.findIdx (fun p => decide (t <= p.1)) <= L.length:=List.findIdx_le_length
   have hj:L.findIdx (fun p => decide (t < p.1)) <= L.length:=List.findIdx_le_length
   have hcut:=set_cut L (t,v) ((attOk_iff L).1 h).2.1
   have hsl:=set_len L (t,v)
   have key:=set_2 L t v hm c1 _ _ (L.length - L.findIdx (fun p => decide (t < p.1))) hi (by omega) (fun g => fnd_set1 g t _ (wan_set1 g t) L) (fun g => fnd_set2 g t _ (wan_set2 g t) L) _ hcut (by omega)
   cases h2:attOk (setA L (t,v)) with
   | false =>
     rw [setR_2 h h2]
     exact key 11 [] (Or.inl ⟨rfl,rfl⟩) (Or.inr rfl) (check_rd _ _ (attE_no h2).symm)
   | true =>
     rw [setR_3 h h2]
     exact key 0 _ (Or.inr ⟨rfl,rfl⟩) (Or.inl rfl) (check_rd _ _ (attE_yes h2).symm)
end Atf
namespace Atf
open Att Rw Atm Tlv
theorem drop_1 (L:List A2) (t:Int) (E:Int) (hE:(E != 0) = true) (c1:RdA 38 L (fun x => #[x]) (.int .i64 E)):AtR 27 L (fun x => #[x,.int .i64 t]) ([],E):=by
 intro w x hx
 obtain ⟨A,c,rfl,-,-⟩:=hx.slice
 obtain ⟨n,hn⟩:∃ n,n = L.length:=⟨_,rfl⟩
 rw [<- hn]
 rw [<- hn] at hx
 have HT:=lH (show KN w.heap.size t (w.alloc (.cells #[.int .i64 t] 3)) from ⟨(World.cell?_alloc_new _ _ _ _).trans rfl,by simp⟩)
 have HS:=lH ((Since.refl w).alloc (.cells #[.int .i64 t] 3))
 have HX:=lH (hx.since ((Since.refl w).alloc (.cells #[.int .i64 t] 3)))
 have HN:=lH hn
 clear hx hn
 go_enter Tryz.func27,Tryz.ntmps27
 go_wp2_with fail
 refine c1.calls0 HX.out ?_
 intro w1 h1
 replace HT:=lH (Kp.keep HT.out h1)
 replace HS:=lH (HS.out.step h1)
 replace HX:=lH (HX.out.since h1)
 clear h1
 go_wp2_with fail
 go_ret2
 exact ⟨_,rfl,AttsS.nil _,HS.out⟩
theorem drop_2 (L:List A2) (t:Int) (c1:RdA 38 L (fun x => #[x]) (.int .i64 0)) (ci:∀ g,RdG 54 g t L L.length):AtR 27 L (fun x => #[x,.int .i64 t]) ([],15):=by
 intro w x hx
 obtain ⟨A,c,rfl,-,-⟩:=hx.slice
 obtain ⟨n,hn⟩:∃ n,n = L.length:=⟨_,rfl⟩
 rw [<- hn]
 rw [<- hn] at hx
 have HT:=lH (show KN w.heap.size t (w.alloc (.cells #[.int .i64 t] 3)) from ⟨(World.cell?_alloc_new _ _ _ _).trans rfl,by simp⟩)
 have HS:=lH ((Since.refl w).alloc (.cells #[.int .i64 t] 3))
 have HX:=lH (hx.since ((Since.refl w).alloc (.cells #[.int .i64 t] 3)))
 have HN:=lH hn
 clear hx hn
 go_enter Tryz.func27,Tryz.ntmps27
 go_wp2_with fail
 refine c1.calls0 HX.out ?_
 intro w1 h1
 replace HT:=lH (Kp.keep HT.out h1)
 replace HS:=lH (HS.out.step h1)
 replace HX:=lH (HX.out.since h1)
 clear h1
 go_wp2_with fail
 refine (ci _ _ _ HT.out HX.out).mono ?_
 rintro _ w2 ⟨rfl,h2⟩
 replace HT:=lH (Kp.keep HT.out h2)
 replace HS:=lH (HS.out.step h2)
 replace HX:=lH (HX.out.since h2)
 clear h2
 rw [<- HN.out]
 have t1:((n:Int) == (n:Int)) = true:=beq_self_eq_true _
 go_wp2_with fail
 go_ret2
 exact ⟨_,rfl,AttsS.nil _,HS.out⟩
set_option maxHeartbeats 8000000 in
theorem drop_3 (L:List A2) (t:Int) (hm:L.length <= 900) (c1:RdA 38 L (fun x => #[x]) (.int .i64 0)) (i m:Nat) (hi:i + 1 + m = L.length) (ci:∀ g,RdG 54 g t L i) (O:List A2) (hO:L.take i ++ L.drop (i + 1) = O) (hO2:O.length <= 1000):AtR 27 L (fun x => #[x,.int .i64 t]) (O,0):=by
 intro w x hx
 obtain ⟨A,c,rfl,-,-⟩:=hx.slice
 obtain ⟨n,hn⟩:∃ n,n = L.length:=⟨_,rfl⟩
 rw [<- hn]
 rw [<- hn] at hx
 have HT:=lH (show KN w.heap.size t (w.alloc (.cells #[.int .i64 t] 3)) from ⟨(World.cell?_alloc_new _ _ _ _).trans rfl,by simp⟩)
 have HS:=lH ((Since.refl w).alloc (.cells #[.int .i64 t] 3))
 have HX:=lH (hx.since ((Since.refl w).alloc (.cells #[.int .i64 t] 3)))
 have HN:=lH hn
 clear hx hn
 go_enter Tryz.func27,Tryz.ntmps27
 go_wp2_with fail
 refine c1.calls0 HX.out ?_
 intro w1 h1
 replace HT:=lH (Kp.keep HT.out h1)
 replace HS:=lH (HS.out.step h1)
 replace HX:=lH (HX.out.since h1)
 clear h1
 go_wp2_with fail
 refine (ci _ _ _ HT.out HX.out).mono ?_
 rintro _ w3 ⟨rfl,h3⟩
 replace HT:=lH (Kp.keep HT.out h3)
 replace HS:=lH (HS.out.step h3)
 replace HX:=lH (HX.out.since h3)
 clear h3
 obtain ⟨A1,hA1,r1⟩:=AttsS.head HX.out i (by omega)
 obtain ⟨A2,d2,hA2,r2⟩:=AttsS.tail HX.out (i + 1) m hi
 rw [Int.natCast_add] at r2
 replace r2:∀ W,(Instr.slice 22 (.slice A n c) (some (.int .i64 ((i:Int) + 1))) none none).run Tryz.prog W = .ok (.slice A2 m d2) W:=r2
 have e8:IntKind.i64.wrap ((i:Int) + 1) = (i:Int) + 1:=by rw [IntKind.wrap_i64]; omega
 have HA1:=lH hA1
 have HA2:=lH hA2
 obtain ⟨g,hg⟩:∃ g,g = w.heap.size:=⟨_,rfl⟩
 rw [<- hg] at HT ⊢
 have HPF:=lH (show KB w3 g t from ⟨HT.out.2,HT.out.1⟩)
 have t1:((i:Int) == (n:Int)) = false:=beq_eq_false_iff_ne.2 (by have:=HN.out; omega)
 clear hA1 hA2 hg
 go_wp2_with fail
 have HB:Hid (Since w3 w3):=lH (Since.refl w3)
 refine RegW.start (fun W' => Hid (Since w3 W') /\ W'.cell? ⟨g,0,none⟩ = some (.int .i64 t)) 10 (by kernel_rfl) ⟨lH (HB.out.step (drew_since _)),HPF.out.at_ (HB.out.step (drew_since _))⟩ (fun hHeld => ?_)
 replace HB:=lH (HB.out.step (drew_since w3))
 obtain ⟨wa,hwa⟩:∃ W,W = w3.drew:=⟨_,rfl⟩
 rw [<- hwa] at HB hHeld ⊢
 clear hwa
 refine RegW.take (i:=0) (v:=?_) rfl (by kernel_rfl) (by kernel_rfl) (by kernel_rfl) (by kernel_rfl) (fun _ _ _ h => h) (Or.inl ⟨by kernel_rfl, ?_⟩) (by assumption) ?_
 rotate_left
 · intro w hSw
   go_split_ands
   go_simp
   try with_reducible rfl
 try simp only [Act.put]
 try simp only [List.setIfInBounds_toArray]
 try simp only [List.set_cons_succ]
 try simp only [List.set_cons_zero]
 refine RegW.take (i:=1) (v:=?_) rfl (by kernel_rfl) (by kernel_rfl) (by kernel_rfl) (by kernel_rfl) (fun _ _ _ h => h) (Or.inl ⟨by kernel_rfl, ?_⟩) (by assumption) ?_
 rotate_left
 · intro w hSw
   go_split_ands
   go_simp
   try with_reducible rfl
 try simp only [Act.put]
 try simp only [List.setIfInBounds_toArray]
 try simp only [List.set_cons_succ]
 try simp only [List.set_cons_zero]
 refine RegW.take (i:=2) (v:=?_) rfl (by kernel_rfl) (by kernel_rfl) (by kernel_rfl) (by kernel_rfl) (fun _ _ _ h => h) (Or.inl ⟨by kernel_rfl, ?_⟩) (by assumption) ?_
 rotate_left
 · intro w hSw
   go_split_ands
   go_simp
   try with_reducible rfl
 try simp only [Act.put]
 try simp only [List.setIfInBounds_toArray]
 try simp only [List.set_cons_succ]
 try simp only [List.set_cons_zero]
 refine RegW.take (i:=3) (v:=?_) rfl (by kernel_rfl) (by kernel_rfl) (by kernel_rfl) (by kernel_rfl) (fun _ _ _ h => h) (Or.inl ⟨by kernel_rfl, ?_⟩) (by assumption) ?_
 rotate_left
 · intro w hSw
   go_split_ands
   go_simp
   try with_reducible rfl
 try simp only [Act.put]
 try simp only [List.setIfInBounds_toArray]
 try simp only [List.set_cons_succ]
 try simp only [List.set_cons_zero]
 refine RegW.take (i:=4) (v:=?_) rfl (by kernel_rfl) (by kernel_rfl) (by kernel_rfl) (by kernel_rfl) (fun _ _ _ h => h) (Or.inl ⟨by kernel_rfl, ?_⟩) (by assumption) ?_
 rotate_left
 · intro w hSw
   go_split_ands
   go_simp
   try with_reducible rfl
 try simp only [Act.put]
 try simp only [List.setIfInBounds_toArray]
 try simp only [List.set_cons_succ]
 try simp only [List.set_cons_zero]
 refine RegW.take (i:=5) (v:=?_) rfl (by kernel_rfl) (by kernel_rfl) (by kernel_rfl) (by kernel_rfl) (fun _ _ _ h => h) (Or.inl ⟨by kernel_rfl, ?_⟩) (by assumption) ?_
 rotate_left
 · intro w hSw
   go_split_ands
   go_simp
   try with_reducible rfl
 try simp only [Act.put]
 try simp only [List.setIfInBounds_toArray]
 try simp only [List.set_cons_succ]
 try simp only [List.set_cons_zero]
 refine RegW.take (i:=6) (v:=?_) rfl (by kernel_rfl) (by kernel_rfl) (by kernel_rfl) (by kernel_rfl) (fun _ _ _ h => h) (Or.inl ⟨by kernel_rfl, ?_⟩) (by assumption) ?_
 rotate_left
 · intro w hSw
   go_split_ands
   go_simp
   try with_reducible rfl
 try simp only [Act.put]
 try simp only [List.setIfInBounds_toArray]
 try simp only [List.set_cons_succ]
 try simp only [List.set_cons_zero]
 refine RegW.only (i:=7) rfl (by kernel_rfl) (fun K hK => ?_)
 go_simp
 refine hK.out _ _ ⟨lH (HB.out.alloc (.cells #[.slice A1 i c,.slice A2 m d2] 22)),HPF.out.at_ (HB.out.alloc _)⟩ (fun hHeld => ?_)
 clear hK K
 try simp only [Act.put]
 try simp only [List.setIfInBounds_toArray]
 try simp only [List.set_cons_succ]
 try simp only [List.set_cons_zero]
 have HLS:=lH (attss_lit wa [.slice A1 i c,.slice A2 m d2] [L.take i,L.drop (i + 1)] rfl (by show 2 <= 1000; omega) (fun q x M hx hM => by
   have hq:q < 2:=by have:=(List.getElem?_eq_some_iff.1 hx).1; simpa using this
   match q,hq with
   | 0,_ => cases hx; cases hM; exact HA1.out.since HB.out
   | 1,_ => cases hx; cases hM; exact HA2.out.since HB.out) #[.slice A1 i c,.slice A2 m d2] rfl 22)
 replace HB:=lH (HB.out.alloc (.cells #[.slice A1 i c,.slice A2 m d2] 22))
 refine RegW.only (i:=8) rfl (by kernel_rfl) (fun K hK => ?_)
 go_simp
 go_at_call 49
 have hfl:[L.take i,L.drop (i + 1)].flatten = O:=by rw [<- hO]; simp
 refine (concat_mk [L.take i,L.drop (i + 1)] (by show 0 < 2; omega) (by show 2 <= 10; omega) (by rw [hfl]; exact hO2) _ _ HLS.out).mono ?_
 rintro _ w9 ⟨v9,rfl,ho9,h9⟩
 rw [hfl] at ho9
 have hv9:AttsS w9 v9 O:=AttsS.own ho9
 obtain ⟨A9,q9,rfl,-,-⟩:=hv9.slice
 have HV9:=lH hv9
 replace HB:=lH (HB.out.step h9)
 clear h9 ho9 hv9 hfl
 refine hK.out _ _ ⟨HB,HPF.out.at_ HB.out⟩ (fun hHeld => ?_)
 clear hK K
 try simp only [Act.put]
 try simp only [List.setIfInBounds_toArray]
 try simp only [List.set_cons_succ]
 try simp only [List.set_cons_zero]
 refine RegW.take (i:=9) (v:=?_) rfl (by kernel_rfl) (by kernel_rfl) (by kernel_rfl) (by kernel_rfl) (fun _ _ _ h => h) (Or.inl ⟨by kernel_rfl, ?_⟩) (by assumption) ?_
 rotate_left
 · intro w hSw
   go_split_ands
   go_simp
   try with_reducible rfl
 try simp only [Act.put]
 try simp only [List.setIfInBounds_toArray]
 try simp only [List.set_cons_succ]
 try simp only [List.set_cons_zero]
 refine RegW.last rfl (by kernel_rfl) (by kernel_rfl) ?_
 clear hHeld
 replace HS:=lH (HS.out.step HB.out)
 clear HB HT HX HLS
 go_wp2_with fail
 go_ret2
 exact ⟨_,rfl,HV9.out,HS.out⟩
theorem drop_mk (L:List A2) (t:Int) (hm:L.length <= 900) (r:List A2 × Int) (hr:r = drpR L t):AtR 27 L (fun x => #[x,.int .i64 t]) r:=by
 subst hr
 cases h:attOk L with
 | false =>
   rw [drpR_1 t h]
   exact drop_1 L t 11 rfl (check_rd L _ (attE_no h).symm)
 | true =>
   have c1:=check_rd L _ (attE_yes h).symm
   have hi:L.findIdx (fun p => p.1 == t) <= L.length:=List.findIdx_le_length
   have ci:=fun g => fnd_drop g t _ (wan_drop g t) L
   cases h2:getB L t with
   | false =>
     rw [drpR_2 h h2]
     have h3:¬ idxN L t < L.length:=fun h9 => by
       obtain ⟨p,_,h8⟩:=getP_idx L t h9
       unfold getB at h2
       rw [h8] at h2
       cases h2
     have h4:L.findIdx (fun p => p.1 == t) = L.length:=by unfold idxN at h3; omega
     rw [h4] at ci
     exact drop_2 L t c1 ci
   | true =>
     rw [drpR_3 h h2]
     have h3:idxN L t < L.length:=by
       by_cases h9:idxN L t < L.length
       · exact h9
       · have h8:=getP_no L t h9
         unfold getB at h2
         rw [h8] at h2
         cases h2
     unfold idxN at h3
     exact drop_3 L t hm c1 _ (L.length - (L.findIdx (fun p => p.1 == t) + 1)) (by omega) ci _ (drop_cut L t ((attOk_iff L).1 h).2.1) (by have:=drop_len L t; omega)
end Atf
end Go.Proofs.YtfnmakelbijmkaaGreatDoor
