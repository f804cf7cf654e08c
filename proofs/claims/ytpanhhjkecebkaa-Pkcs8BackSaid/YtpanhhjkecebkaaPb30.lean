import Derived.Test.YtpanhhjkecebkaaPb14
import Derived.Test.YtpanhhjkecebkaaPb24
import Derived.Test.YtpanhhjkecebkaaPb6
set_option maxRecDepth 100000
namespace Go.Proofs.Ytpanhhjkecebkaa
open Go.RowKit
namespace Oid
theorem encN_snoc (l:List Nat) (n:Nat):encN (l ++ [n]) = encN l ++ num n:=by simp [encN]
theorem encN_len (l:List Nat) (h:∀ n ∈ l,n <= 2147483647):(encN l).length <= 5 * l.length:=by
 induction l with
 | nil => simp [encN]
 | cons n l ih =>
   rw [show encN (n :: l) = num n ++ encN l from rfl,List.length_append,List.length_cons]
   have:=ih fun m hm => h m (by simp [hm])
   have:=num_len n (by have:=h n (by simp); omega)
   omega
theorem number_int (x:Int) (h0:0 <= x) (h1:x < 34359738368) (X:ByteArray) (hX:X = bs (num x.toNat)):Mak 22 #[.int .i64 x] (.string X):=by
 obtain ⟨n,rfl⟩:=Int.eq_ofNat_of_zero_le h0
 exact number_mak n (by omega) X (by rw [hX]; rfl)
def encU (xs:List Int) (k:Nat):List UInt8:=num (40 * xs.getD 0 0 + xs.getD 1 0).toNat ++ encN (((xs.drop 2).take k).map Int.toNat)
theorem encU_0 (xs:List Int):encU xs 0 = num (40 * xs.getD 0 0 + xs.getD 1 0).toNat:=by simp [encU,encN]
theorem encU_succ (xs:List Int) (k:Nat) (h:k + 2 < xs.length):encU xs (k + 1) = encU xs k ++ num (xs.getD (k + 2) 0).toNat:=by
 unfold encU
 rw [List.take_succ_eq_append_getElem (by rw [List.length_drop]; omega),List.map_append,List.map_singleton,encN_snoc,List.append_assoc]
 congr 4
 rw [List.getElem_drop]
 simp [List.getD,List.getElem?_eq_getElem h,Nat.add_comm]
theorem encU_all (xs:List Int) (h:Ok xs) (k:Nat) (hk:xs.length = k + 2):encU xs k = enc xs:=by
 match xs,h with
 | a :: b :: r,h =>
   simp only [List.length_cons] at hk
   unfold encU enc
   simp only [List.getD_cons_zero,List.getD_cons_succ,List.drop_succ_cons,List.drop_zero]
   rw [List.take_of_length_le (by omega)]
theorem encU_len (xs:List Int) (h:Ok xs) (k:Nat):(encU xs k).length <= 200:=by
 match xs,h with
 | a :: b :: r,⟨hr,ha,ha2,hb,hb2,hx⟩ =>
   unfold encU
   simp only [List.getD_cons_zero,List.getD_cons_succ,List.drop_succ_cons,List.drop_zero]
   rw [List.length_append]
   have h1:=num_len (40 * a + b).toNat (by omega)
   have h2:=encN_len ((r.take k).map Int.toNat) (fun n hn => by
     obtain ⟨x,hx2,rfl⟩:=List.mem_map.1 hn
     have:=hx x (List.mem_of_mem_take hx2); omega)
   rw [List.length_map,List.length_take] at h2
   omega
theorem ok_at (xs:List Int) (h:Ok xs) (k:Nat) (hk:k < xs.length):0 <= xs.getD k 0 /\ xs.getD k 0 <= 2147483647:=by
 obtain ⟨h1,h2,h3,h4,h5⟩:=(ok_iff xs).1 h
 cases k with
 | zero => omega
 | succ k =>
   have:=h5 k hk
   unfold mst at this
   split at this <;> (try split at this) <;> omega
theorem encode_no (w:World) (v:Value) (xs:List Int) (hv:IntsS w v xs) (hk:¬ Ok xs) :
   Calls Try.prog 8 #[v] w fun e w' => e = .returned (.tuple #[.string ⟨#[]⟩,.bool false]) /\ w = w':=by
 have c1:=right_any w v xs hv false (decide_eq_false hk).symm
 obtain ⟨A,c,rfl,_,_⟩:=hv.slice
 clear hk hv
 go_enter Try.func8,Try.ntmps8
 go_wp2_with fail
 refine c1.mono ?_
 rintro e w1 ⟨rfl,rfl⟩
 go_wp2_with fail
 go_ret2
 exact ⟨rfl,rfl⟩
set_option maxHeartbeats 4000000 in
theorem encode_yes (w:World) (v:Value) (xs:List Int) (hv:IntsS w v xs) (hk:Ok xs) (X:ByteArray) (hX:X = bs (enc xs)) :
   Calls Try.prog 8 #[v] w fun e w' => e = .returned (.tuple #[.string X,.bool true]) /\ Since w w':=by
 have H0:=lH (Since.refl w)
 have c1:=right_any w v xs hv true (decide_eq_true hk).symm
 have hiff:=(ok_iff xs).1 hk
 obtain ⟨b,o,c,rfl,hc1,hc2,hlt,hcell⟩:=hv.form (by omega)
 obtain ⟨n,hn⟩:∃ n,xs.length = n:=⟨_,rfl⟩
 obtain ⟨m,hm⟩:∃ m,n = 2 + m:=⟨n - 2,by omega⟩
 obtain ⟨d,hd⟩:∃ d,c = 2 + d:=⟨c - 2,by omega⟩
 have hv2:SlR w 1 (.slice (some ⟨b,o,none⟩) n c) n (xs.map (Value.int .i64)):=by rw [<- hn]; exact hv
 rw [hn] at hcell hc1 c1 ⊢
 obtain ⟨A',hT,hrun⟩:=hv2.tail Try.underlying22 size_i 2 m d hm hd
 have hrun0:∀ W,(Instr.slice 22 (.slice (some ⟨b,o,none⟩) n c) (some (.int .i64 2)) none none).run Try.prog W = .ok (.slice A' m d) W:=hrun
 have k0:=hcell 0 (by omega)
 have k1:=hcell 1 (by omega)
 rw [Nat.add_zero] at k0
 have b0:=ok_at xs hk 0 (by omega)
 have b1:=ok_at xs hk 1 (by omega)
 obtain ⟨p,hp⟩:∃ p,p = xs.getD 0 0:=⟨_,rfl⟩
 obtain ⟨q,hq⟩:∃ q,q = xs.getD 1 0:=⟨_,rfl⟩
 rw [<- hp] at k0 b0
 rw [<- hq] at k1 b1
 have hp2:p <= 2:=by rw [hp]; exact hiff.2.2.2.1
 have e1:IntKind.i64.wrap (40 * p) = 40 * p:=IntWalk.i64_in _ (by omega)
 have e2:IntKind.i64.wrap (40 * p + q) = 40 * p + q:=IntWalk.i64_in _ (by omega)
 obtain ⟨S,hS⟩:∃ S,S = bs (encU xs 0):=⟨_,rfl⟩
 have c2:=number_int (40 * p + q) (by omega) (by omega) S (by rw [hS,encU_0,hp,hq])
 have HT:=lH hT
 have HX:Hid (X = bs (encU xs m)):=lH (by rw [hX,encU_all xs hk m (by omega)])
 have HK:=lH hk
 have HS:=lH hS
 have HN:Hid (xs.length = 2 + m):=lH (by omega)
 have i9:(1:Int) < (n:Int):=by omega
 have i7:0 < n /\ 1 < n:=by omega
 have i8:(0:Int) < (n:Int):=by omega
 have hm9:m <= 18:=by omega
 have hS9:S.size <= 200:=by rw [hS,size_bs]; exact encU_len xs hk 0
 clear hk hv hv2 hT hrun hcell hc1 hc2 hX hp hq hS hiff hn hm hd
 have H_c1:=lH c1
 clear c1
 go_enter Try.func8,Try.ntmps8
 go_wp2_with fail
 refine H_c1.out.mono ?_
 rintro e w1 ⟨rfl,rfl⟩
 go_wp2_with fail
 refine wp_region_still_tail 8 (by kernel_rfl) (by kernel_rfl) ?_
 simp only [List.take_succ_cons,List.take_zero,List.drop_succ_cons,List.drop_zero]
 change wpStill _ _ w.drew (fun a' => wpList _ _ _ _ a' w.drew) _ _
 repeat (refine wpStill_step (fun K hK => ?_); go_simp; refine hK _ ?_; clear hK K)
 refine wpStill_nil ?_
 clear e1 e2
 have H0d:=lH (Since.drew H0.out)
 go_wp2_with fail
 refine c2.calls H0d.out ?_
 intro w2 h2
 have H2:=lH h2
 clear h2 c2
 go_wp2_with fail
 go_loopw [4,22] (fun s i wr => ∃ (k:Nat) (O:ByteArray),k <= m /\ i = .int .i64 (k:Int) /\ s = .string O /\ O.size <= 200 /\ Hid (O = bs (encU xs k)) /\ Hid (Since w wr)) (fun _ i _ => m - (intOf i).toNat)
 case atStart => exact ⟨0,S,by omega,rfl,rfl,hS9,HS,H2⟩
 case round =>
   obtain ⟨k,O,hk,rfl,rfl,hO9,HO,HSW⟩:=hrel
   by_cases hlt2:k < m
   · obtain ⟨b',o',c',hA',_,_,hlt',hc'⟩:=HT.out.form (by omega)
     obtain ⟨rfl,-,-⟩:=Value.slice.inj hA'
     clear hA'
     have hck:=hc' k (.int .i64 (xs.getD (k + 2) 0)) (by
       rw [List.getElem?_drop,List.getElem?_map,Nat.add_comm 2 k]
       simp [List.getD,show k + 2 < xs.length from by have:=HN.out; omega])
     have hck2:=(HSW.out.below.cell (p:=⟨b',o' + k,none⟩) hlt').trans hck
     have hb:=ok_at xs HK.out (k + 2) (by have:=HN.out; omega)
     have hU:=encU_succ xs k (by have:=HN.out; omega)
     have hl9:=encU_len xs HK.out (k + 1)
     obtain ⟨x,hx⟩:∃ x,x = xs.getD (k + 2) 0:=⟨_,rfl⟩
     rw [<- hx] at hck2 hb hU
     obtain ⟨P,hP⟩:∃ P,P = bs (num x.toNat):=⟨_,rfl⟩
     have c3:=number_int x (by omega) (by omega) P hP
     have hU2:O ++ P = bs (encU xs (k + 1)):=by
       apply ba_ext
       rw [app_list,HO.out,hP,list_bs,list_bs,list_bs,hU]
     have hP9:O.size + P.size <= 200:=by
       have h9:(O ++ P).size <= 200:=by rw [hU2,size_bs]; exact hl9
       rwa [ByteArray.size_append] at h9
     have hsz:¬ 9223372036854775807 < O.size + P.size:=by omega
     have hO2s:(O ++ P).size <= 200:=by rw [ByteArray.size_append]; exact hP9
     obtain ⟨O2,hO2⟩:∃ O2,O ++ P = O2:=⟨_,rfl⟩
     rw [hO2] at hU2 hO2s
     clear hc' hck hx hU hl9 hP hb
     have HU2:=lH hU2
     clear hU2
     go_wp2_with fail
     refine c3.calls HSW.out ?_
     intro w3 h3
     have H3:=lH h3
     clear h3
     go_wp2_with fail
     go_roundw
     case rel => exact ⟨k + 1,O2,by omega,by go_num,rfl,hO2s,HU2,H3⟩
     case measure => simp [intOf]; omega
   · obtain rfl:k = m:=by omega
     obtain rfl:X = O:=by rw [HX.out,HO.out]
     go_wp2_with fail
     go_ret2
     exact ⟨rfl,HSW.out⟩
end Oid
namespace Oid
end Oid
def MkI (f:Nat) (args:Array Value) (xs:List Int) (b:Bool):Prop:=∀ w,Calls Try.prog f args w fun e w' => ∃ v,e = .returned (.tuple #[v,.bool b]) /\ IntsS w' v xs /\ Below w.heap.size w w'
theorem MkI.calls0 {f:Nat} {args:Array Value} {xs:List Int} {b:Bool} (h:MkI f args xs b) {w:World} {R:Ending -> World -> Prop} (k:∀ v w',IntsS w' v xs -> Since w w' -> R (.returned (.tuple #[v,.bool b])) w'):Calls Try.prog f args w R :=
 (h w).mono fun _ _ ⟨v,he,ho,hb⟩ => by subst he; exact k v _ ho hb
theorem elemI:ElemIs 22 3 (.int .i64 0) 1 8:=⟨Try.underlying22,by kernel_rfl,rfl,by decide⟩
namespace Oid
theorem drop_at (c:ByteArray) (k:Nat) (h:k < c.size):c.data.toList.drop k = c[k] :: c.data.toList.drop (k + 1):=by
 rw [List.drop_eq_getElem_cons (by simpa using h)]; rfl
theorem drop_end (c:ByteArray) (k:Nat) (h:c.size <= k):c.data.toList.drop k = []:=List.drop_eq_nil_of_le (by simpa using h)
end Oid
namespace Oid
open Dig
def unB (l:List UInt8):Bool:=decide (numS (unV l) = l)
def unN (l:List UInt8):Int:=if unB l then unV l else 0
def spl (cur:List UInt8):List UInt8 -> List (List UInt8)
 | [] => [cur]
 | c :: cs => if c = 46 then cur :: spl [] cs else spl (cur ++ [c]) cs
def pp:List (List UInt8) -> List Int -> Option (List Int)
 | [],l => some l
 | p :: ps,l => if unB p = false ∨ l.length = 20 then none else pp ps (l ++ [unN p])
def parB (t:List UInt8):Bool:=((pp (spl [] t) []).filter fun l => decide (Ok l)).isSome
def join:List (List UInt8) -> List UInt8
 | [] => []
 | p :: ps => p ++ ps.flatMap (46 :: ·)
end Oid
end Go.Proofs.Ytpanhhjkecebkaa
