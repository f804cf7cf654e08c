import Derived.Test.YtddlaafpianjbaaGreatDoorBo39
import Derived.Test.YtddlaafpianjbaaGreatDoorBo15
import Derived.Test.YtddlaafpianjbaaGreatDoorBo11
set_option maxRecDepth 100000
namespace Go.Proofs.YtddlaafpianjbaaGreatDoor
open Go.RowKit
namespace Opt
def padM (n:Int):Nat:=((28 - n % 16) % 16).toNat
def zerosB (m:Nat):ByteArray:=bs (List.replicate m 48)
def padV (n:Int):ByteArray:=if n < 0 ∨ n % 16 = 0 then ⟨#[]⟩ else enc ⟨#[80,66]⟩ (zerosB (padM n))
theorem zerosB_size (m:Nat):(zerosB m).size = m:=by unfold zerosB; rw [size_bs,List.length_replicate]
theorem padM_lt (n:Int):padM n < 16:=by unfold padM; omega
theorem may_pad (m:Nat) (h:m < 16):may ⟨#[80,66]⟩ (zerosB m) = true:=by
 have h0:∀ m,m < 16 -> may ⟨#[80,66]⟩ (zerosB m) = true:=by decide +kernel
 exact h0 m h
theorem zerosB_snoc (k:Nat):zerosB k ++ ⟨#[48]⟩ = zerosB (k + 1):=by
 apply ba_ext
 unfold zerosB
 rw [app_list,list_bs,list_bs,List.replicate_succ']
theorem pad_none (n:Int) (h:n < 0 ∨ n % 16 = 0) (h9:-9223372036854775808 <= n) (h8:n <= 1099511627776):Ret 141 #[.int .i64 n] (.string ⟨#[]⟩):=by
 intro w
 by_cases h1:n < 0
 · have t1:decide (n < 0) = true:=decide_eq_true h1
   clear h
   go_enter Tryz.func141,Tryz.ntmps141
   go_wp2_with fail
   go_ret
   exact ⟨rfl,rfl⟩
 · have t1:decide (n < 0) = false:=decide_eq_false h1
   have t2:(n % 16 == 0) = true:=beq_iff_eq.2 (by omega)
   have h0:0 <= n:=by omega
   clear h
   go_enter Tryz.func141,Tryz.ntmps141
   go_wp2_with fail
   go_ret
   exact ⟨rfl,rfl⟩
theorem pad_some (n:Int) (r m:Nat) (h0:0 <= n) (h8:n <= 1099511627776) (hr:n % 16 = (r:Int)) (hr1:1 <= r) (_hr2:r < 16) (hm:m = (28 - r) % 16) (D X:ByteArray)
   (c1:Mak 176 #[.string ⟨#[48]⟩,.int .i64 (m:Int)] (.string D)) (c2:Mak 139 #[.agg #[.string ⟨#[80,66]⟩,.string D]] (.tuple #[.string X,.int .i64 0])):Mak 141 #[.int .i64 n] (.string X):=by
 intro w
 have HS:=lH (Since.refl w)
 have t1:decide (n < 0) = false:=decide_eq_false (by omega)
 have t2:((r:Int) == 0) = false:=by rw [beq_eq_false_iff_ne]; omega
 have e1:(32 - (r:Int) - 4) % 16 = (m:Int):=by omega
 clear hm
 go_enter Tryz.func141,Tryz.ntmps141
 go_wp2_with fail
 repeat ((first | with_reducible refine c1.calls HS.out ?_ | with_reducible refine c2.calls HS.out ?_); intro wz hz; replace HS:=lH hz; clear hz; try go_wp2_with fail)
 go_ret
 exact ⟨rfl,HS.out⟩
theorem padding_mak (n:Int) (h9:-9223372036854775808 <= n) (h8:n <= 1099511627776) (X:ByteArray) (hX:X = padV n):Mak 141 #[.int .i64 n] (.string X):=by
 subst hX
 unfold padV
 by_cases h:n < 0 ∨ n % 16 = 0
 · rw [if_pos h]; exact (pad_none n h h9 h8).mak
 · rw [if_neg h]
   obtain ⟨r,hr⟩:∃ r:Nat,n % 16 = (r:Int):=⟨(n % 16).toNat,by omega⟩
   have hm:padM n = (28 - r) % 16:=by unfold padM; omega
   have hlt:=padM_lt n
   have c1:Mak 176 #[.string ⟨#[48]⟩,.int .i64 (padM n:Int)] (.string (zerosB (padM n))):=fun w => by
     have h:=Tryz.strings_Repeat ⟨#[48]⟩ (padM n) w (by omega) (by show 1 * _ <= _; omega)
     have e:Lib.repeatL (⟨#[48]⟩:ByteArray).data.toList (padM n) = List.replicate (padM n) 48:=by
       have:=Lib.repeatL_replicate 48 1 (padM n)
       rw [Nat.mul_one] at this
       exact this
     rw [e] at h
     exact h
   have hmay:=may_pad (padM n) hlt
   have c2:=encode_mak ⟨#[80,66]⟩ (zerosB (padM n)) (by decide) (by rw [zerosB_size]; omega) (enc ⟨#[80,66]⟩ (zerosB (padM n))) 0 (by unfold encX; rw [hmay]; rfl) (by unfold encE; rw [hmay]; rfl)
   exact pad_some n r (padM n) (by omega) h8 hr (by omega) (by omega) hm _ _ c1 c2
theorem rpad_none (n:Int) (h:n < 0 ∨ n % 16 = 0) (h9:-9223372036854775808 <= n) (h8:n <= 1099511627776):Ret 109 #[.int .i64 n] (.string ⟨#[]⟩):=by
 intro w
 by_cases h1:n < 0
 · have t1:decide (n < 0) = true:=decide_eq_true h1
   clear h
   go_enter Tryz.func109,Tryz.ntmps109
   go_wp2_with fail
   go_ret
   exact ⟨rfl,rfl⟩
 · have t1:decide (n < 0) = false:=decide_eq_false h1
   have t2:(n % 16 == 0) = true:=beq_iff_eq.2 (by omega)
   have h0:0 <= n:=by omega
   clear h
   go_enter Tryz.func109,Tryz.ntmps109
   go_wp2_with fail
   go_ret
   exact ⟨rfl,rfl⟩
theorem rpad_some (n:Int) (m:Nat) (h0:0 <= n) (h8:n <= 1099511627776) (hr:(n % 16 == 0) = false) (hm:m < 16) (hm1:∀ k:Nat,k < m -> ((n + 4 + (k:Int)) % 16 != 0) = true) (hm2:((n + 4 + (m:Int)) % 16 != 0) = false) (D X:ByteArray) (hD:D = zerosB m)
   (c2:Mak 108 #[.agg #[.string ⟨#[80,66]⟩,.string D]] (.tuple #[.string X,.int .i64 0])):Mak 109 #[.int .i64 n] (.string X):=by
 intro w
 have HS:=lH (Since.refl w)
 have t1:decide (n < 0) = false:=decide_eq_false (by omega)
 have HM1:=lH hm1
 have HM2:=lH hm2
 have HD:=lH hD
 clear hm1 hm2 hD
 go_enter Tryz.func109,Tryz.ntmps109
 go_wp2_with fail
 go_loop [3] (fun v => ∃ (k:Nat) (B:ByteArray),k <= m /\ v = .string B /\ B.size = k /\ Hid (B = zerosB k)) (fun v => m - (match v with | .string B => B.size | _ => 0))
 case atStart => exact ⟨0,⟨#[]⟩,by omega,rfl,rfl,lH rfl⟩
 case round =>
   obtain ⟨k,B,hk,rfl,hz,HB⟩:=hrel
   have hb16:(B.size:Int) <= 16:=by omega
   by_cases hlt:k < m
   · have t3:=HM1.out k hlt
     rw [<- hz] at t3
     obtain ⟨B2,hB2⟩:∃ B2,B ++ ⟨#[48]⟩ = B2:=⟨_,rfl⟩
     have f1:¬ 9223372036854775807 < B.size + 1:=by omega
     have HB2:Hid (B2 = zerosB (k + 1)):=lH (by rw [<- hB2,HB.out,zerosB_snoc])
     have hz2:B2.size = k + 1:=by rw [HB2.out,zerosB_size]
     have HZ:=lH hz
     clear hz
     go_wp2_with fail
     go_round
     case rel => exact ⟨k + 1,B2,by omega,rfl,hz2,HB2⟩
     case measure => show m - B2.size < m - B.size; have:=HZ.out; omega
   · obtain rfl:k = m:=by omega
     have t3:=HM2.out
     rw [<- hz] at t3
     have e:B = D:=by rw [HB.out,HD.out]
     subst e
     clear hz
     go_wp2_with fail
     repeat (with_reducible refine c2.calls HS.out ?_; intro wz hz; replace HS:=lH hz; clear hz; try go_wp2_with fail)
     go_ret
     exact ⟨rfl,HS.out⟩
theorem rpadding_mak (n:Int) (h9:-9223372036854775808 <= n) (h8:n <= 1099511627776) (X:ByteArray) (hX:X = padV n):Mak 109 #[.int .i64 n] (.string X):=by
 subst hX
 unfold padV
 by_cases h:n < 0 ∨ n % 16 = 0
 · rw [if_pos h]; exact (rpad_none n h h9 h8).mak
 · rw [if_neg h]
   have hlt:=padM_lt n
   have hm:(padM n:Int) = (28 - n % 16) % 16:=by unfold padM; omega
   have hmay:=may_pad (padM n) hlt
   have c2:=rencode_mak ⟨#[80,66]⟩ (zerosB (padM n)) (by decide) (by rw [zerosB_size]; omega) (enc ⟨#[80,66]⟩ (zerosB (padM n))) 0 (by unfold encX; rw [hmay]; rfl) (by unfold encE; rw [hmay]; rfl)
   exact rpad_some n (padM n) (by omega) h8 (by rw [beq_eq_false_iff_ne]; omega) hlt (fun k hk => by rw [bne_iff_ne]; omega) (by rw [bne_eq_false_iff_eq]; omega) _ _ rfl c2
end Opt
namespace Opt
def hasB (l:List P2) (id:ByteArray):Bool:=l.any fun p => decide (p.1 = id)
theorem hasB_snoc (l:List P2) (p:P2) (id:ByteArray):hasB (l ++ [p]) id = (hasB l id || decide (p.1 = id)):=by simp [hasB]
theorem take_snoc {α:Type} (l:List α) (k:Nat) (p:α) (h:l[k]? = some p):l.take (k + 1) = l.take k ++ [p]:=by
 obtain ⟨h1,h2⟩:=List.getElem?_eq_some_iff.1 h
 rw [List.take_succ_eq_append_getElem h1,h2]
theorem hasB_take (l:List P2) (k:Nat) (id:ByteArray) (h:hasB (l.take k) id = true):hasB l id = true:=by
 unfold hasB at *
 rw [List.any_eq_true] at *
 obtain ⟨x,hx,hx2⟩:=h
 exact ⟨x,List.mem_of_mem_take hx,hx2⟩
theorem has_nil (id:ByteArray):RdO 140 [] (fun x => #[x,.string id]) (.bool false):=by
 intro w x hx
 obtain ⟨A,c,rfl,_⟩:=hx.empty rfl
 clear hx
 go_enter Tryz.func140,Tryz.ntmps140
 go_wp2_with fail
 go_loopw [6,9] (fun _ i wr => i = .int .i64 0 /\ Hid (Since w wr)) (fun _ i _ => 0 - (intOf i).toNat)
 case atStart => exact ⟨rfl,lH (Since.refl w)⟩
 case round =>
   obtain ⟨rfl,HS⟩:=hrel
   go_wp2_with fail
   go_ret
   exact ⟨rfl,HS.out⟩
set_option maxHeartbeats 2000000 in
theorem has_rd (l:List P2) (id:ByteArray) (hl:l.length <= 100000) (q:Bool) (hq:q = hasB l id):RdO 140 l (fun x => #[x,.string id]) (.bool q):=by
 by_cases h0:l.length = 0
 · obtain rfl:=List.length_eq_zero_iff.1 h0
   subst hq
   exact has_nil id
 · intro w x hx
   obtain ⟨b,o,c,rfl,h1,h2,h3,h4⟩:=hx.form (by omega)
   obtain ⟨n,hn⟩:∃ n,n = l.length:=⟨_,rfl⟩
   rw [<- hn] at hl h1 h0 ⊢
   have HC:=lH h4
   have HN:=lH hn
   have HQ:=lH hq
   clear h4 hx hn hq
   go_enter Tryz.func140,Tryz.ntmps140
   go_wp2_with fail
   go_loopw [6,9] (fun _ i wr => ∃ k:Nat,k <= n /\ i = .int .i64 (k:Int) /\ Hid (hasB (l.take k) id = false) /\ Hid (Since w wr)) (fun _ i _ => n - (intOf i).toNat)
   case atStart => exact ⟨0,by omega,rfl,lH rfl,lH (Since.refl w)⟩
   case round =>
     obtain ⟨k,hk,rfl,HA,HS⟩:=hrel
     by_cases hlt:k < n
     · obtain ⟨⟨i,d⟩,hp⟩:∃ p,l[k]? = some p:=⟨l[k]'(by rw [<- HN.out]; exact hlt),List.getElem?_eq_getElem _⟩
       obtain ⟨m0,m1⟩:=HC.out k _ hp
       replace m0:=(Below.cell HS.out (p:=⟨b,o + k * 2,none⟩) h3).trans m0
       replace m1:=(Below.cell HS.out (p:=⟨b,o + k * 2 + 1,none⟩) h3).trans m1
       have HA2:Hid (hasB (l.take (k + 1)) id = decide (i = id)):=lH (by rw [take_snoc l k _ hp,hasB_snoc,HA.out]; rfl)
       clear hp
       by_cases hi:i = id
       · have t1:(i.toList == id.toList) = true:=str_eq_t hi
         have hq2:q = true:=by rw [HQ.out]; exact hasB_take l (k + 1) id (by rw [HA2.out,decide_eq_true hi])
         clear hi
         subst hq2
         go_wp2_with fail
         go_ret
         exact ⟨rfl,HS.out.alloc _⟩
       · have t1:(i.toList == id.toList) = false:=str_ne_f hi
         have HA3:Hid (hasB (l.take (k + 1)) id = false):=lH (by rw [HA2.out,decide_eq_false hi])
         clear hi HA2
         go_wp2_with fail
         go_roundw
         case rel => exact ⟨k + 1,by omega,by go_num,HA3,lH (HS.out.alloc _)⟩
         case measure => simp [intOf]; omega
     · obtain rfl:k = n:=by omega
       have hq2:q = false:=by
         have h9:=HA.out
         rw [HN.out,List.take_length] at h9
         rw [HQ.out]; exact h9
       subst hq2
       go_wp2_with fail
       go_ret
       exact ⟨rfl,HS.out⟩
end Opt
namespace Opt
def PB:ByteArray:=⟨#[80,66]⟩
theorem PB_list:PB.toList = [80,66]:=by decide +kernel
def stepB (l:List P2) (k:Nat) (p:P2):Bool:=may p.1 p.2 && !decide (p.1 = PB) && !hasB (l.take k) p.1
def okN (l:List P2):Nat -> Bool
 | 0 => true
 | k+1 => okN l k && (match l[k]? with | some p => stepB l k p | none => true)
theorem okN_succ (l:List P2) (k:Nat) (p:P2) (h:l[k]? = some p):okN l (k + 1) = (okN l k && stepB l k p):=by
 show (okN l k && (match l[k]? with | some p => stepB l k p | none => true)) = _
 rw [h]
theorem okN_le (l:List P2) (k m:Nat) (hk:k <= m) (h:okN l m = true):okN l k = true:=by
 induction m with
 | zero => obtain rfl : k = 0 := by omega
           exact h
 | succ m ih =>
   by_cases e:k = m + 1
   · rw [e]; exact h
   · refine ih (by omega) ?_
     have h2:(okN l m && (match l[m]? with | some p => stepB l m p | none => true)) = true:=h
     rw [Bool.and_eq_true] at h2
     exact h2.1
theorem okN_bad (l:List P2) (k:Nat) (hk:k < l.length) (h:okN l (k + 1) = false):okN l l.length = false:=by
 cases h2:okN l l.length with
 | false => rfl
 | true => rw [okN_le l (k + 1) l.length hk h2] at h; cases h
def encs (l:List P2):List ByteArray:=l.map fun p => enc p.1 p.2
def catP (l:List P2):ByteArray:=bs (Oct.cat (encs l))
def padP (l:List P2):ByteArray:=padV ((catP l).size:Int)
def cntP (l:List P2):Nat:=l.length + if (padP l).size = 0 then 0 else 1
def packOk (l:List P2):Bool:=okN l l.length && decide (cntP l <= 98) && decide ((catP l).size + (padP l).size <= 9999)
def packE (l:List P2):Int:=if okN l l.length = false then 5 else if packOk l then 0 else 4
def packX (l:List P2):ByteArray:=if packOk l then catP l ++ padP l else ⟨#[]⟩
def packN (l:List P2):Int:=if packOk l then (cntP l:Int) else 0
def packV (l:List P2):Value:=.tuple #[.string (packX l),.int .i64 (packN l),.int .i64 (packE l)]
theorem packV_bad (l:List P2) (h:okN l l.length = false):packV l = .tuple #[.string ⟨#[]⟩,.int .i64 0,.int .i64 5]:=by
 have h2:packOk l = false:=by unfold packOk; rw [h]; rfl
 unfold packV packX packN packE
 rw [h2,h]; rfl
theorem packV_big (l:List P2) (h:okN l l.length = true) (h2:98 < cntP l ∨ 9999 < (catP l).size + (padP l).size):packV l = .tuple #[.string ⟨#[]⟩,.int .i64 0,.int .i64 4]:=by
 have h2:packOk l = false:=by
   unfold packOk
   rcases h2 with h2 | h2
   · rw [decide_eq_false (show ¬ cntP l <= 98 by omega)]; simp
   · rw [decide_eq_false (show ¬ (catP l).size + (padP l).size <= 9999 by omega)]; simp
 unfold packV packX packN packE
 rw [h2,h]; rfl
theorem packV_ok (l:List P2) (h:okN l l.length = true) (h2:cntP l <= 98) (h3:(catP l).size + (padP l).size <= 9999):packV l = .tuple #[.string (catP l ++ padP l),.int .i64 (cntP l:Int),.int .i64 0]:=by
 have h2:packOk l = true:=by
   unfold packOk
   rw [h,decide_eq_true h2,decide_eq_true h3]; rfl
 unfold packV packX packN packE
 rw [h2,h]; rfl
theorem okN_may (l:List P2) (k:Nat) (h:okN l k = true):∀ p ∈ l.take k,may p.1 p.2 = true:=by
 induction k with
 | zero => intro p hp; simp at hp
 | succ k ih =>
   intro p hp
   cases hk:l[k]? with
   | none =>
     have hlen:l.length <= k:=by
       by_cases h9:k < l.length
       · rw [List.getElem?_eq_getElem h9] at hk; cases hk
       · omega
     rw [List.take_of_length_le (by omega)] at hp
     exact ih (okN_le l k (k + 1) (by omega) h) p (by rw [List.take_of_length_le hlen]; exact hp)
   | some p' =>
     rw [okN_succ l k p' hk,Bool.and_eq_true] at h
     rw [take_snoc l k p' hk] at hp
     rcases List.mem_append.1 hp with hp | hp
     · exact ih h.1 p hp
     · obtain rfl:p = p':=by simpa using hp
       have h2:=h.2
       unfold stepB at h2
       rw [Bool.and_eq_true,Bool.and_eq_true] at h2
       exact h2.1.1
theorem cat_size (ss:List ByteArray) (m:Nat) (h:∀ s ∈ ss,s.size <= m):(Oct.cat ss).length <= ss.length * m:=by
 induction ss with
 | nil => exact Nat.zero_le _
 | cons s ss ih =>
   have h1:=h s List.mem_cons_self
   have h2:=ih (fun x hx => h x (List.mem_cons_of_mem _ hx))
   have e:Oct.cat (s :: ss) = s.data.toList ++ Oct.cat ss:=by simp [Oct.cat]
   have hl:s.data.toList.length = s.size:=rfl
   rw [e,List.length_append,List.length_cons,Nat.succ_mul,hl]
   omega
theorem catP_size (l:List P2) (h:okN l l.length = true):(catP l).size <= l.length * 9010:=by
 unfold catP
 rw [size_bs]
 have h1:=cat_size (encs l) 9010 (fun s hs => by
   obtain ⟨p,hp,rfl⟩:=List.mem_map.1 hs
   have hm:=okN_may l l.length h p (by rw [List.take_length]; exact hp)
   have:=enc_size p.1 p.2 hm
   have h9:=(may_sizes p.1 p.2 hm).2
   rw [this]; split <;> omega)
 unfold encs at h1 ⊢
 rw [List.length_map] at h1
 exact h1
theorem padV_size (n:Int):(padV n).size <= 300:=by
 unfold padV
 split
 · exact Nat.zero_le _
 · have hm:=may_pad (padM n) (padM_lt n)
   have:=padM_lt n
   rw [enc_size _ _ hm,zerosB_size]
   split <;> omega
def Own (w W:World) (v:Value) (ss:List ByteArray):Prop:=W.ownsRow w.heap.size 9 1 v ss.length (ss.map Value.string)
theorem own_since {w w':World} {base:Nat} {E:TypeId} {size:Nat} {v:Value} {n:Nat} {xs:List Value} (h:w.ownsRow base E size v n xs) (hs:Since w w'):w'.ownsRow base E size v n xs:=by
 obtain ⟨h1,h2⟩:=h
 refine ⟨h1, ?_⟩
 rcases h2 with h2 | ⟨g,cap,cur,rfl,hb,hg,r⟩
 · exact Or.inl h2
 · exact Or.inr ⟨g,cap,cur,rfl,hb,(Below.block hs g (Array.getElem?_eq_some_iff.1 hg).1).trans hg,r⟩
theorem Own.since {w W W':World} {v:Value} {ss:List ByteArray} (h:Own w W v ss) (hs:Since W W'):Own w W' v ss:=own_since h hs
theorem Own.alloc {w W:World} {v:Value} {ss:List ByteArray} (h:Own w W v ss) (o:Obj):Own w (W.alloc o) v ss:=World.ownsRow.alloc h o
theorem own_k {w W:World} {v:Value} {ss:List ByteArray} {k:Nat} (h:Own w W v ss) (hk:ss.length = k):W.ownsRow w.heap.size 9 1 v k (ss.map Value.string):=by subst hk; exact h
theorem own_k1 {w W:World} {v:Value} {ss tt:List ByteArray} {x:ByteArray} {k:Nat} (h:W.ownsRow w.heap.size 9 1 v (k + 1) (ss.map Value.string ++ [.string x])) (hk:ss.length = k) (ht:tt = ss ++ [x]):Own w W v tt:=by
 subst ht hk
 unfold Own
 rw [List.length_append,List.map_append]
 exact h
theorem Own.read {w W:World} {v:Value} {ss:List ByteArray} (h:Own w W v ss):StrsR W v ss:=Strs.read (base:=w.heap.size) h
theorem belowN (w:World) (q:Nat):Below w.heap.size w (w.drewN q):=⟨rfl,rfl,rfl,Nat.le_refl _,fun _ _ => rfl⟩
structure KeepR (WB:World) (g:Nat) (i:ByteArray) (W:World):Prop where
 since:Since WB W
 cell:W.cell? ⟨g,0,none⟩ = some (.string i)
 lg:g < W.heap.size
theorem keepS {WB:World} {g:Nat} {i:ByteArray} {W W':World} (hb:Below W.heap.size W W') (h:Hid (KeepR WB g i W)):Hid (KeepR WB g i W') :=
 lH ⟨h.out.since.step hb,(hb.cell (p:=⟨g,0,none⟩) h.out.lg).trans h.out.cell,Nat.lt_of_lt_of_le h.out.lg hb.size⟩
theorem keepD {WB:World} {g:Nat} {i:ByteArray} {W:World} (h:Hid (KeepR WB g i W)):Hid (KeepR WB g i W.drew):=keepS (Below.drew (Below.refl _ _)) h
theorem keepR {WB:World} {g:Nat} {i:ByteArray} {W:World} (h:Hid (KeepR WB g i W)):Hid (KeepR WB g i W) /\ W.cell? ⟨g,0,none⟩ = some (.string i):=⟨h,h.out.cell⟩
theorem keepX {w WB:World} {g:Nat} {i:ByteArray} {W:World} {v:Value} {l:List P2} (h1:Hid (OptsS w v l)) (h2:Hid (Since w WB)) (h:Hid (KeepR WB g i W)):OptsS W v l:=h1.out.since (h2.out.step h.out.since)
theorem pack_nil (c2:Mak 141 #[.int .i64 0] (.string ⟨#[]⟩)):RdO 98 [] (fun x => #[x]) (.tuple #[.string ⟨#[]⟩,.int .i64 0,.int .i64 0]):=by
 intro w x hx
 obtain ⟨A,c,rfl,_⟩:=hx.empty rfl
 clear hx
 have HJ:=lH (fun W => Oct.join_lit W [⟨#[]⟩,⟨#[]⟩] 2 rfl #[.string ⟨#[]⟩,.string ⟨#[]⟩] rfl ⟨#[]⟩ rfl (by decide) (by decide))
 go_enter Tryz.func98,Tryz.ntmps98
 go_wp2_with fail
 refine wp_scope_some 1 ?_
 go_wp2_with fail
 go_loopw [5,9,10,11,12,17] (fun s _ _ _ _ i wr => i = .int .i64 0 /\ s = .slice none 0 0 /\ Hid (Since w wr)) (fun _ _ _ _ _ i _ => 0 - (intOf i).toNat)
 case atStart => exact ⟨rfl,rfl,lH (Since.refl w)⟩
 case round =>
   obtain ⟨rfl,rfl,HS⟩:=hrel
   go_wp2_with fail
   refine (Oct.join_nil _ _ _).mono ?_
   rintro e wj ⟨rfl,hj⟩
   replace HS:=lH (HS.out.step hj)
   clear hj
   go_wp2_with fail
   refine c2.calls0 ?_
   intro wp hp
   replace HS:=lH (HS.out.step hp)
   clear hp
   go_wp2_with fail
   refine (HJ.out _).mono ?_
   rintro e w4 ⟨rfl,h4⟩
   have HS4:=lH (Since.step HS.out h4)
   clear h4
   go_wp2_with fail
   simp only [Exit.jumps]
   go_ret3
   exact ⟨rfl,HS4.out⟩
set_option maxHeartbeats 16000000 in
theorem pack_rd (l:List P2) (hl:l.length <= 600) (hl0:0 < l.length) (hsz:∀ p ∈ l,p.1.size <= 1000000 /\ p.2.size <= 1000000) (V:Value) (hV:V = packV l) (X Pd:ByteArray) (hX:X = catP l) (hPd:Pd = padP l)
   (c2:okN l l.length = true -> Mak 141 #[.int .i64 (X.size:Int)] (.string Pd)):RdO 98 l (fun x => #[x]) V:=by
 intro w x hx
 have HXS:=lH hx
 obtain ⟨b,o,c,rfl,h1,h2,h3,h4⟩:=hx.form hl0
 obtain ⟨n,hn⟩:∃ n,n = l.length:=⟨_,rfl⟩
 rw [<- hn] at hl h1 hl0 HXS ⊢
 have HV:=lH hV
 have HX:=lH hX
 have HPd:=lH hPd
 have HN:=lH hn
 have HC:=lH h4
 have HZ:=lH hsz
 have HC2:=lH c2
 have hPs:Pd.size <= 300:=by rw [hPd]; exact padV_size _
 clear hx hV hX hPd hn h4 hsz c2
 go_enter Tryz.func98,Tryz.ntmps98
 go_wp2_with fail
 refine wp_scope_some 1 ?_
 go_wp2_with fail
 go_loopw [5,9,10,11,12,17] (fun s _ _ _ _ i wr => ∃ k:Nat,k <= n /\ i = .int .i64 (k:Int) /\ Hid (okN l k = true) /\ Hid (Own w wr s (encs (l.take k))) /\ Hid (Since w wr)) (fun _ _ _ _ _ i _ => n - (intOf i).toNat)
 case atStart => exact ⟨0,by omega,rfl,lH rfl,lH (World.ownsRow_nil _ _ _ _),lH (Since.refl w)⟩
 case round =>
   obtain ⟨k,hk,rfl,HK,HO,HS⟩:=hrel
   by_cases hlt:k < n
   · obtain ⟨⟨i,d⟩,hp⟩:∃ p,l[k]? = some p:=⟨l[k]'(by rw [<- HN.out]; exact hlt),List.getElem?_eq_getElem _⟩
     obtain ⟨m0,m1⟩:=HC.out k _ hp
     replace m0:=(Below.cell HS.out (p:=⟨b,o + k * 2,none⟩) h3).trans m0
     replace m1:=(Below.cell HS.out (p:=⟨b,o + k * 2 + 1,none⟩) h3).trans m1
     obtain ⟨s1,s2⟩:=HZ.out (i,d) (List.mem_of_getElem? hp)
     have HST:=lH (okN_succ l k _ hp)
     have HTK:=lH (take_snoc l k _ hp)
     clear hp
     have c1:=encode_mak i d (by show i.size <= _; have:i.size <= 1000000:=s1; omega) (by have:d.size <= 1000000:=s2; omega) (encX i d) (encE i d) rfl rfl
     clear s1 s2
     unfold encX encE at c1
     have hst:stepB l k (i,d) = (may i d && !decide (i = PB) && !hasB (l.take k) i):=rfl
     cases hm:may i d with
     | false =>
       rw [hm,if_neg (by decide),if_neg (by decide)] at c1
       have HB:Hid (okN l (k + 1) = false):=lH (by rw [HST.out,hst,hm]; simp)
       clear hm hst
       go_wp2_with fail
       obtain ⟨W1,hW1⟩:∃ W1,W1 = wr.alloc (.cells #[.string i,.string d] 152):=⟨_,rfl⟩
       rw [<- hW1]
       have hg:wr.heap.size < W1.heap.size:=by rw [hW1]; simp
       have p0:W1.cell? ⟨wr.heap.size,0,none⟩ = some (.string i):=by rw [hW1]; exact World.cell?_alloc_new _ _ _ _
       have p1:W1.cell? ⟨wr.heap.size,1,none⟩ = some (.string d):=by rw [hW1]; exact World.cell?_alloc_new _ _ _ _
       replace HO:=lH (show Own w W1 _ _ by rw [hW1]; exact HO.out.alloc _)
       replace HS:=lH (show Since w W1 by rw [hW1]; exact HS.out.alloc _)
       clear hW1 m0 m1
       refine c1.calls0 ?_
       intro wz hz
       replace HO:=lH (HO.out.since hz)
       replace p0:=(Below.cell hz (by exact hg)).trans p0
       replace p1:=(Below.cell hz (by exact hg)).trans p1
       replace hg:=Nat.lt_of_lt_of_le hg (Below.size hz)
       replace HS:=lH (HS.out.step hz)
       clear hz
       go_wp2_with fail
       go_quiet (fail)
       replace HS:=lH (HS.out.step (belowN _ nq))
       go_wp2_with fail
       have HF:=lH (show V = _ from HV.out.trans (packV_bad l (okN_bad l k (by rw [<- HN.out]; exact hlt) HB.out)))
       go_step3
       refine ⟨_,rfl, ?_⟩
       go_wp2_with fail
       go_ret3
       exact ⟨congrArg Ending.returned HF.out.symm,HS.out⟩
     | true =>
       rw [hm,if_pos rfl,if_pos rfl] at c1
       by_cases hpb:i = PB
       · have HB:Hid (okN l (k + 1) = false):=lH (by rw [HST.out,hst,decide_eq_true hpb]; simp)
         have t1:(i.toList == [80,66]) = true:=by rw [<- PB_list]; exact str_eq_t hpb
         clear hm hst hpb
         go_wp2_with fail
         obtain ⟨W1,hW1⟩:∃ W1,W1 = wr.alloc (.cells #[.string i,.string d] 152):=⟨_,rfl⟩
         rw [<- hW1]
         have hg:wr.heap.size < W1.heap.size:=by rw [hW1]; simp
         have p0:W1.cell? ⟨wr.heap.size,0,none⟩ = some (.string i):=by rw [hW1]; exact World.cell?_alloc_new _ _ _ _
         have p1:W1.cell? ⟨wr.heap.size,1,none⟩ = some (.string d):=by rw [hW1]; exact World.cell?_alloc_new _ _ _ _
         replace HO:=lH (show Own w W1 _ _ by rw [hW1]; exact HO.out.alloc _)
         replace HS:=lH (show Since w W1 by rw [hW1]; exact HS.out.alloc _)
         clear hW1 m0 m1
         refine c1.calls0 ?_
         intro wz hz
         replace HO:=lH (HO.out.since hz)
         replace p0:=(Below.cell hz (by exact hg)).trans p0
         replace p1:=(Below.cell hz (by exact hg)).trans p1
         replace hg:=Nat.lt_of_lt_of_le hg (Below.size hz)
         replace HS:=lH (HS.out.step hz)
         clear hz
         go_wp2_with fail
         go_quiet (fail)
         replace HS:=lH (HS.out.step (belowN _ nq))
         go_wp2_with fail
         have HF:=lH (show V = _ from HV.out.trans (packV_bad l (okN_bad l k (by rw [<- HN.out]; exact hlt) HB.out)))
         go_step3
         refine ⟨_,rfl, ?_⟩
         go_wp2_with fail
         go_ret3
         exact ⟨congrArg Ending.returned HF.out.symm,HS.out⟩
       · have t1:(i.toList == [80,66]) = false:=by rw [<- PB_list]; exact str_ne_f hpb
         have c3:=has_rd (l.take k) i (by rw [List.length_take]; omega) _ rfl
         have HX3:=lH (HXS.out.take k (by rw [<- HN.out]; omega))
         have hst2:stepB l k (i,d) = !hasB (l.take k) i:=by rw [hst,hm,decide_eq_false hpb]; simp
         have i1:(0:Int) <= (k:Int):=by omega
         have i2:(k:Int) <= (c:Int):=by omega
         cases hq:hasB (l.take k) i with
         | true =>
           rw [hq] at c3
           have HB:Hid (okN l (k + 1) = false):=lH (by rw [HST.out,hst2,hq]; simp)
           clear hm hst hpb hst2 hq
           go_wp2_with fail
           obtain ⟨W1,hW1⟩:∃ W1,W1 = wr.alloc (.cells #[.string i,.string d] 152):=⟨_,rfl⟩
           rw [<- hW1]
           have hg:wr.heap.size < W1.heap.size:=by rw [hW1]; simp
           have p0:W1.cell? ⟨wr.heap.size,0,none⟩ = some (.string i):=by rw [hW1]; exact World.cell?_alloc_new _ _ _ _
           have p1:W1.cell? ⟨wr.heap.size,1,none⟩ = some (.string d):=by rw [hW1]; exact World.cell?_alloc_new _ _ _ _
           replace HO:=lH (show Own w W1 _ _ by rw [hW1]; exact HO.out.alloc _)
           replace HS:=lH (show Since w W1 by rw [hW1]; exact HS.out.alloc _)
           clear hW1 m0 m1
           refine c1.calls0 ?_
           intro wz hz
           replace HO:=lH (HO.out.since hz)
           replace p0:=(Below.cell hz (by exact hg)).trans p0
           replace p1:=(Below.cell hz (by exact hg)).trans p1
           replace hg:=Nat.lt_of_lt_of_le hg (Below.size hz)
           replace HS:=lH (HS.out.step hz)
           clear hz
           go_wp2_with fail
           have hb9:Hid (Since wz wz /\ wz.cell? ⟨wr.heap.size,0,none⟩ = some (.string i)):=lH ⟨Since.refl _,p0⟩
           obtain ⟨WB,hWB⟩:∃ WB,WB = wz:=⟨_,rfl⟩
           have HW:Hid (KeepR WB wr.heap.size i wz):=lH (by rw [hWB]; exact ⟨Since.refl _,p0,hg⟩)
           replace HO:Hid (Own w WB _ _):=lH (by rw [hWB]; exact HO.out)
           replace HS:Hid (Since w WB):=lH (by rw [hWB]; exact HS.out)
           clear hb9 hWB p0 p1 hg
           go_region_held3 (fun W => Hid (KeepR WB wr.heap.size i W) /\ W.cell? ⟨wr.heap.size,0,none⟩ = some (.string i))
             (first | exact keepR (by assumption) | exact keepR (keepD (by assumption)))
             (first | (go_at_call 140; refine c3.calls0 (keepX HX3 HS (by first | assumption | exact keepD (by assumption))) ?_; intro wy hby; have hpy:=keepS hby (by first | assumption | exact keepD (by assumption)); clear hby))
           all_goals
             replace HS:=lH (HS.out.step hpy.out.since)
             go_wp2_with fail
             have HF:=lH (show V = _ from HV.out.trans (packV_bad l (okN_bad l k (by rw [<- HN.out]; exact hlt) HB.out)))
             go_step3
             refine ⟨_,rfl, ?_⟩
             go_wp2_with fail
             go_ret3
             exact ⟨congrArg Ending.returned HF.out.symm,HS.out⟩
         | false =>
           rw [hq] at c3
           have HB:Hid (okN l (k + 1) = true):=lH (by rw [HST.out,hst2,hq,HK.out]; rfl)
           clear hm hst hpb hst2 hq
           go_wp2_with fail
           obtain ⟨W1,hW1⟩:∃ W1,W1 = wr.alloc (.cells #[.string i,.string d] 152):=⟨_,rfl⟩
           rw [<- hW1]
           have hg:wr.heap.size < W1.heap.size:=by rw [hW1]; simp
           have p0:W1.cell? ⟨wr.heap.size,0,none⟩ = some (.string i):=by rw [hW1]; exact World.cell?_alloc_new _ _ _ _
           have p1:W1.cell? ⟨wr.heap.size,1,none⟩ = some (.string d):=by rw [hW1]; exact World.cell?_alloc_new _ _ _ _
           replace HO:=lH (show Own w W1 _ _ by rw [hW1]; exact HO.out.alloc _)
           replace HS:=lH (show Since w W1 by rw [hW1]; exact HS.out.alloc _)
           clear hW1 m0 m1
           refine c1.calls0 ?_
           intro wz hz
           replace HO:=lH (HO.out.since hz)
           replace p0:=(Below.cell hz (by exact hg)).trans p0
           replace p1:=(Below.cell hz (by exact hg)).trans p1
           replace hg:=Nat.lt_of_lt_of_le hg (Below.size hz)
           replace HS:=lH (HS.out.step hz)
           clear hz
           go_wp2_with fail
           have hen:encs (l.take (k + 1)) = encs (l.take k) ++ [enc i d]:=by rw [HTK.out]; unfold encs; rw [List.map_append]; rfl
           have hel:(encs (l.take k)).length = k:=by unfold encs; rw [List.length_map,List.length_take]; have:=HN.out; omega
           obtain ⟨es,hes⟩:∃ es,es = encs (l.take k):=⟨_,rfl⟩
           rw [<- hes] at hen hel HO
           have Hen:=lH hen
           clear hen
           have Hel:=lH hel
           clear hel
           have Hes:=lH hes
           clear hes
           have hb9:Hid (Since wz wz /\ wz.cell? ⟨wr.heap.size,0,none⟩ = some (.string i)):=lH ⟨Since.refl _,p0⟩
           obtain ⟨WB,hWB⟩:∃ WB,WB = wz:=⟨_,rfl⟩
           have HW:Hid (KeepR WB wr.heap.size i wz):=lH (by rw [hWB]; exact ⟨Since.refl _,p0,hg⟩)
           replace HO:Hid (Own w WB _ _):=lH (by rw [hWB]; exact HO.out)
           replace HS:Hid (Since w WB):=lH (by rw [hWB]; exact HS.out)
           clear hb9 hWB p0 p1 hg
           go_region_held3 (fun W => Hid (KeepR WB wr.heap.size i W) /\ W.cell? ⟨wr.heap.size,0,none⟩ = some (.string i))
             (first | exact keepR (by assumption) | exact keepR (keepD (by assumption)))
             (first | (go_at_call 140; refine c3.calls0 (keepX HX3 HS (by first | assumption | exact keepD (by assumption))) ?_; intro wy hby; have hpy:=keepS hby (by first | assumption | exact keepD (by assumption)); clear hby))
           all_goals
             replace HS:=lH (HS.out.step hpy.out.since)
             replace HO:=lH (own_k (HO.out.since hpy.out.since) Hel.out)
             go_wp2_with (at_builtin; refine app_one_k elemS rfl _ _ (by rfl) w _ _ k _ (by rfl) HO.out HS.out _ (by rfl) rfl (by omega) (by decide) ?_)
             intro v2 W2 ho2 hs2 hk2
             have HO2:Hid (Own w W2 v2 (encs (l.take (k + 1)))):=lH (own_k1 ho2 Hel.out Hen.out)
             have HS2:=lH hs2
             clear ho2 hs2 hk2
             go_wp2_with fail
             go_roundw
             case rel => exact ⟨k + 1,by omega,by go_num,HB,HO2,HS2⟩
             case measure => simp [intOf]; omega
   · obtain rfl:n = k:=by omega
     have hK:=HK.out
     rw [HN.out] at hK
     have c2:=HC2.out hK
     replace HK:=lH hK
     have hcs:=catP_size l hK
     have hXs:X.size <= 5406000:=by rw [HX.out]; have:=HN.out; omega
     have hcl:(Oct.cat (encs l)).length <= 140737488355328:=by show (catP l).size <= _; rw [<- HX.out]; omega
     have hlen:l.length <= 600:=by rw [<- HN.out]; exact hl
     have ho:=HO.out
     rw [HN.out,List.take_length] at ho
     replace HO:=lH ho
     clear ho hK hcs HC HC2 HZ h1 h2 h3 hlt hk
     have hss:=HO.out.read
     have hJ:=Oct.join_strs _ _ (encs l) hss hcl (by unfold encs; rw [List.length_map]; omega)
     have HJ:=lH hJ
     clear hJ hss HO
     go_wp2_with fail
     refine HJ.out.mono ?_
     rintro e wj ⟨rfl,hj⟩
     replace HS:=lH (HS.out.step hj)
     clear hj HJ
     rw [show bs (Oct.cat (encs l)) = X from HX.out.symm]
     go_wp2_with fail
     refine c2.calls0 ?_
     intro wp hp
     replace HS:=lH (HS.out.step hp)
     clear hp
     by_cases hz:Pd.size = 0
     · obtain rfl:Pd = ⟨#[]⟩:=by apply ba_ext; exact List.length_eq_zero_iff.1 hz
       have hcnt:cntP l = n:=by unfold cntP; rw [<- HPd.out]; rw [<- HN.out]; rfl
       by_cases h98:98 < n
       · have t1:decide ((98:Int) < (n:Int)) = true:=decide_eq_true (by omega)
         have HF:=lH (show V = _ from HV.out.trans (packV_big l HK.out (Or.inl (by omega))))
         clear hcnt hz
         go_wp2_with fail
         simp only [Exit.jumps]
         go_ret3
         exact ⟨congrArg Ending.returned HF.out.symm,HS.out⟩
       · have t1:decide ((98:Int) < (n:Int)) = false:=decide_eq_false (by omega)
         by_cases h99:9999 < X.size
         · have t2:decide ((9999:Int) < (X.size:Int)) = true:=decide_eq_true (by omega)
           have HF:=lH (show V = _ from HV.out.trans (packV_big l HK.out (Or.inr (by rw [<- HX.out]; omega))))
           clear hcnt hz
           go_wp2_with fail
           simp only [Exit.jumps]
           go_ret3
           exact ⟨congrArg Ending.returned HF.out.symm,HS.out⟩
         · have t2:decide ((9999:Int) < (X.size:Int)) = false:=decide_eq_false (by omega)
           have hfin:packV l = .tuple #[.string X,.int .i64 (n:Int),.int .i64 0]:=by
             rw [packV_ok l HK.out (by omega) (by rw [<- HX.out,<- HPd.out]; show X.size + 0 <= _; omega),hcnt,<- HPd.out,<- HX.out]
             rw [show X ++ ⟨#[]⟩ = X from ba_ext (by rw [app_list]; simp)]
           have HF:=lH (show V = _ from HV.out.trans hfin)
           clear hcnt hz hfin
           have HJ:=lH (fun W => Oct.join_lit W [X,⟨#[]⟩] 2 rfl #[.string X,.string ⟨#[]⟩] rfl X (by apply ba_ext; rw [list_bs]; simp [Oct.cat]) (by omega) (by decide))
           go_wp2_with fail
           refine (HJ.out _).mono ?_
           rintro e w4 ⟨rfl,h4⟩
           have HS4:=lH (Since.step HS.out h4)
           clear h4
           go_wp2_with fail
           simp only [Exit.jumps]
           go_ret3
           exact ⟨congrArg Ending.returned HF.out.symm,HS4.out⟩
     · have b1:=some_bytes Pd (by omega)
       have b2:=some_bytes_f Pd (by omega)
       have hcnt:cntP l = n + 1:=by unfold cntP; rw [<- HPd.out,if_neg hz,<- HN.out]
       by_cases h98:98 < n + 1
       · have t1:decide ((98:Int) < (n:Int) + 1) = true:=decide_eq_true (by omega)
         have HF:=lH (show V = _ from HV.out.trans (packV_big l HK.out (Or.inl (by omega))))
         clear hcnt hz
         go_wp2_with fail
         simp only [Exit.jumps]
         go_ret3
         exact ⟨congrArg Ending.returned HF.out.symm,HS.out⟩
       · have t1:decide ((98:Int) < (n:Int) + 1) = false:=decide_eq_false (by omega)
         by_cases h99:9999 < X.size + Pd.size
         · have t2:decide ((9999:Int) < (X.size:Int) + (Pd.size:Int)) = true:=decide_eq_true (by omega)
           have HF:=lH (show V = _ from HV.out.trans (packV_big l HK.out (Or.inr (by rw [<- HX.out,<- HPd.out]; omega))))
           clear hcnt hz
           go_wp2_with fail
           simp only [Exit.jumps]
           go_ret3
           exact ⟨congrArg Ending.returned HF.out.symm,HS.out⟩
         · have t2:decide ((9999:Int) < (X.size:Int) + (Pd.size:Int)) = false:=decide_eq_false (by omega)
           obtain ⟨Y,hY⟩:∃ Y,Y = X ++ Pd:=⟨_,rfl⟩
           have hYs:Y.size = X.size + Pd.size:=by rw [hY,ByteArray.size_append]
           have hfin:packV l = .tuple #[.string Y,.int .i64 ((n:Int) + 1),.int .i64 0]:=by
             rw [packV_ok l HK.out (by omega) (by rw [<- HX.out,<- HPd.out]; omega),hcnt,<- HPd.out,<- HX.out,<- hY]; rfl
           have HF:=lH (show V = _ from HV.out.trans hfin)
           have HJ:=lH (fun W => Oct.join_lit W [X,Pd] 2 rfl #[.string X,.string Pd] rfl Y (by apply ba_ext; rw [list_bs,hY,app_list]; simp [Oct.cat]) (by omega) (by decide))
           clear hcnt hz hfin hY hYs
           go_wp2_with fail
           refine (HJ.out _).mono ?_
           rintro e w4 ⟨rfl,h4⟩
           have HS4:=lH (Since.step HS.out h4)
           clear h4
           go_wp2_with fail
           simp only [Exit.jumps]
           go_ret3
           exact ⟨congrArg Ending.returned HF.out.symm,HS4.out⟩
end Opt
namespace Opt
theorem rpack_nil (c2:Mak 109 #[.int .i64 0] (.string ⟨#[]⟩)):RdO 65 [] (fun x => #[x]) (.tuple #[.string ⟨#[]⟩,.int .i64 0,.int .i64 0]):=by
 intro w x hx
 obtain ⟨A,c,rfl,_⟩:=hx.empty rfl
 clear hx
 go_enter Tryz.func65,Tryz.ntmps65
 go_wp2_with fail
 go_loopw [5,6,7,8,9] (fun s i _ _ _ wr => i = .int .i64 0 /\ s = .string ⟨#[]⟩ /\ Hid (Since w wr)) (fun _ i _ _ _ _ => 0 - (intOf i).toNat)
 case atStart => exact ⟨rfl,rfl,lH (Since.refl w)⟩
 case round =>
   obtain ⟨rfl,rfl,HS⟩:=hrel
   go_wp2_with fail
   refine c2.calls0 ?_
   intro wp hp
   replace HS:=lH (HS.out.step hp)
   clear hp
   go_wp2_with fail
   go_ret3
   exact ⟨rfl,HS.out⟩
theorem catP_snoc (l:List P2) (p:P2):catP (l ++ [p]) = catP l ++ enc p.1 p.2:=by
 apply ba_ext
 unfold catP encs
 rw [app_list,list_bs,list_bs,List.map_append]
 exact Oct.cat_snoc _ _
theorem okN_take (l:List P2) (k:Nat) (h:okN l k = true) (hk:k <= l.length):okN (l.take k) (l.take k).length = true:=by
 have:∀ m,m <= k -> okN (l.take k) m = true:=by
   intro m
   induction m with
   | zero => intro _; rfl
   | succ m ih =>
     intro hm
     obtain ⟨p,hp⟩:∃ p,l[m]? = some p:=⟨l[m]'(by omega),List.getElem?_eq_getElem _⟩
     have hp2:(l.take k)[m]? = some p:=by rw [List.getElem?_take,if_pos (by omega)]; exact hp
     have h3:=okN_le l (m + 1) k hm h
     rw [okN_succ l m p hp,Bool.and_eq_true] at h3
     rw [okN_succ _ m p hp2,ih (by omega),Bool.true_and]
     have h4:=h3.2
     unfold stepB at h4 ⊢
     rw [List.take_take,Nat.min_eq_left (by omega)]
     exact h4
 exact this _ (by rw [List.length_take]; omega)
set_option maxHeartbeats 16000000 in
theorem rpack_rd (l:List P2) (hl:l.length <= 3000) (hl0:0 < l.length) (hsz:∀ p ∈ l,p.1.size <= 1000000 /\ p.2.size <= 1000000) (V:Value) (hV:V = packV l) (X Pd:ByteArray) (hX:X = catP l) (hPd:Pd = padP l)
   (c2:okN l l.length = true -> Mak 109 #[.int .i64 (X.size:Int)] (.string Pd)):RdO 65 l (fun x => #[x]) V:=by
 intro w x hx
 obtain ⟨b,o,c,rfl,h1,h2,h3,h4⟩:=hx.form hl0
 obtain ⟨n,hn⟩:∃ n,n = l.length:=⟨_,rfl⟩
 rw [<- hn] at hl h1 hl0 ⊢
 have HV:=lH hV
 have HX:=lH hX
 have HPd:=lH hPd
 have HN:=lH hn
 have HC:=lH h4
 have HZ:=lH hsz
 have HC2:=lH c2
 have hPs:Pd.size <= 300:=by rw [hPd]; exact padV_size _
 clear hx hV hX hPd hn h4 hsz c2
 go_enter Tryz.func65,Tryz.ntmps65
 go_wp2_with fail
 go_loopw [5,6,7,8,9] (fun s i _ _ _ wr => ∃ (k:Nat) (B:ByteArray),k <= n /\ i = .int .i64 (k:Int) /\ Hid (okN l k = true) /\ s = .string B /\ Hid (B = catP (l.take k)) /\ Hid (Since w wr)) (fun _ i _ _ _ _ => n - (intOf i).toNat)
 case atStart => exact ⟨0,⟨#[]⟩,by omega,rfl,lH rfl,rfl,lH rfl,lH (Since.refl w)⟩
 case round =>
   obtain ⟨k,B,hk,rfl,HK,rfl,HBB,HS⟩:=hrel
   by_cases hlt:k < n
   · obtain ⟨⟨i,d⟩,hp⟩:∃ p,l[k]? = some p:=⟨l[k]'(by rw [<- HN.out]; exact hlt),List.getElem?_eq_getElem _⟩
     obtain ⟨m0,m1⟩:=HC.out k _ hp
     replace m0:=(Below.cell HS.out (p:=⟨b,o + k * 2,none⟩) h3).trans m0
     replace m1:=(Below.cell HS.out (p:=⟨b,o + k * 2 + 1,none⟩) h3).trans m1
     obtain ⟨s1,s2⟩:=HZ.out (i,d) (List.mem_of_getElem? hp)
     have HST:=lH (okN_succ l k _ hp)
     have HTK:=lH (take_snoc l k _ hp)
     have HP:=lH hp
     clear hp
     have c1:=rencode_mak i d (by show i.size <= _; have:i.size <= 1000000:=s1; omega) (by have:d.size <= 1000000:=s2; omega) (encX i d) (encE i d) rfl rfl
     clear s1 s2
     unfold encX encE at c1
     have hst:stepB l k (i,d) = (may i d && !decide (i = PB) && !hasB (l.take k) i):=rfl
     cases hm:may i d with
     | false =>
       rw [hm,if_neg (by decide),if_neg (by decide)] at c1
       have HB:Hid (okN l (k + 1) = false):=lH (by rw [HST.out,hst,hm]; simp)
       clear hm hst
       go_wp2_with fail
       refine c1.calls0 ?_
       intro we he
       replace m0:=(Below.cell he (p:=⟨b,o + k * 2,none⟩) (Nat.lt_of_lt_of_le h3 HS.out.size)).trans m0
       replace HS:=lH (HS.out.step he)
       clear he m1
       go_wp2_with fail
       have HF:=lH (show V = _ from HV.out.trans (packV_bad l (okN_bad l k (by rw [<- HN.out]; exact hlt) HB.out)))
       go_ret3
       exact ⟨congrArg Ending.returned HF.out.symm,HS.out⟩
     | true =>
       rw [hm,if_pos rfl,if_pos rfl] at c1
       by_cases hpb:i = PB
       · have HB:Hid (okN l (k + 1) = false):=lH (by rw [HST.out,hst,decide_eq_true hpb]; simp)
         have t1:(i.toList == [80,66]) = true:=by rw [<- PB_list]; exact str_eq_t hpb
         clear hm hst hpb
         go_wp2_with fail
         refine c1.calls0 ?_
         intro we he
         replace m0:=(Below.cell he (p:=⟨b,o + k * 2,none⟩) (Nat.lt_of_lt_of_le h3 HS.out.size)).trans m0
         replace HS:=lH (HS.out.step he)
         clear he m1
         go_wp2_with fail
         have HF:=lH (show V = _ from HV.out.trans (packV_bad l (okN_bad l k (by rw [<- HN.out]; exact hlt) HB.out)))
         go_ret3
         exact ⟨congrArg Ending.returned HF.out.symm,HS.out⟩
       · have t1:(i.toList == [80,66]) = false:=by rw [<- PB_list]; exact str_ne_f hpb
         have hst2:stepB l k (i,d) = !hasB (l.take k) i:=by rw [hst,hm,decide_eq_false hpb]; simp
         have HST2:=lH hst2
         have hkn:(k:Int) < (n:Int):=by omega
         have hk0:(0:Int) <= (k:Int):=by omega
         have hes:=enc_size i d hm
         have hds:=(may_sizes i d hm).2
         have hEs:(enc i d).size <= 9010:=by rw [hes]; split <;> omega
         obtain ⟨E9,hE9⟩:∃ E9,E9 = enc i d:=⟨_,rfl⟩
         rw [<- hE9] at c1 hEs
         have HE9:=lH hE9
         have hBs:B.size <= 27030000:=by
           have h9:=catP_size (l.take k) (okN_take l k HK.out (by rw [<- HN.out]; omega))
           rw [<- HBB.out,List.length_take] at h9
           omega
         clear hm hst hpb hst2 hes hds hE9
         go_wp2_with fail
         refine c1.calls0 ?_
         intro we he
         replace m0:=(Below.cell he (p:=⟨b,o + k * 2,none⟩) (Nat.lt_of_lt_of_le h3 HS.out.size)).trans m0
         replace HS:=lH (HS.out.step he)
         clear he m1
         go_wp2_with fail
         go_loopw [9] (fun j wi => ∃ q:Nat,q <= k /\ j = .int .i64 (q:Int) /\ Hid (hasB (l.take q) i = false) /\ Hid (Since w wi)) (fun j _ => k - (intOf j).toNat)
         case atStart => exact ⟨0,by omega,rfl,lH rfl,HS⟩
         case round =>
           obtain ⟨q,hq,rfl,HA,HI⟩:=hrel
           by_cases hlq:q < k
           · obtain ⟨⟨i2,d2⟩,hp2⟩:∃ p,l[q]? = some p:=⟨l[q]'(by rw [<- HN.out]; omega),List.getElem?_eq_getElem _⟩
             obtain ⟨n0,_⟩:=HC.out q _ hp2
             obtain ⟨m0',_⟩:=HC.out k _ HP.out
             clear m0
             replace n0:=(Below.cell HI.out (p:=⟨b,o + q * 2,none⟩) h3).trans n0
             have m0:=(Below.cell HI.out (p:=⟨b,o + k * 2,none⟩) h3).trans m0'
             have hq0:(0:Int) <= (q:Int):=by omega
             have hqn:(q:Int) < (n:Int):=by omega
             have HA2:Hid (hasB (l.take (q + 1)) i = decide (i2 = i)):=lH (by rw [take_snoc l q _ hp2,hasB_snoc,HA.out]; rfl)
             clear hp2 m0'
             by_cases hii:i2 = i
             · have t2:(i2.toList == i.toList) = true:=str_eq_t hii
               have HB:Hid (okN l (k + 1) = false):=lH (by
                 have h9:hasB (l.take k) i = true:=by
                   have h8:hasB ((l.take k).take (q + 1)) i = true:=by rw [List.take_take,Nat.min_eq_left (by omega),HA2.out,decide_eq_true hii]
                   exact hasB_take _ _ _ h8
                 rw [HST.out,HST2.out,h9]; simp)
               clear hii
               go_wp2_with fail
               go_quiet (fail)
               replace HI:=lH (HI.out.step (belowN _ nq))
               go_wp2_with fail
               have HF:=lH (show V = _ from HV.out.trans (packV_bad l (okN_bad l k (by rw [<- HN.out]; exact hlt) HB.out)))
               go_ret3
               exact ⟨congrArg Ending.returned HF.out.symm,HI.out⟩
             · have t2:(i2.toList == i.toList) = false:=str_ne_f hii
               have HA3:Hid (hasB (l.take (q + 1)) i = false):=lH (by rw [HA2.out,decide_eq_false hii])
               clear hii HA2
               go_wp2_with fail
               go_quiet (fail)
               replace HI:=lH (HI.out.step (belowN _ nq))
               go_wp2_with fail
               go_roundw
               case rel => exact ⟨q + 1,by omega,by go_num,HA3,HI⟩
               case measure => simp [intOf]; omega
           · obtain rfl:k = q:=by omega
             have HB:Hid (okN l (k + 1) = true):=lH (by rw [HST.out,HST2.out,HA.out,HK.out]; rfl)
             obtain ⟨B2,hB2⟩:∃ B2,B ++ E9 = B2:=⟨_,rfl⟩
             have HB2:Hid (B2 = catP (l.take (k + 1))):=lH (by rw [<- hB2,HTK.out,catP_snoc,HBB.out,HE9.out])
             have f1:¬ 9223372036854775807 < B.size + E9.size:=by omega
             clear m0
             go_wp2_with fail
             go_roundw
             case rel => exact ⟨k + 1,B2,by omega,by go_num,HB,rfl,HB2,HI⟩
             case measure => simp [intOf]; omega
   · obtain rfl:n = k:=by omega
     have hK:=HK.out
     rw [HN.out] at hK
     have c2:=HC2.out hK
     replace HK:=lH hK
     have hcs:=catP_size l hK
     have hXs:X.size <= 27030000:=by rw [HX.out]; have:=HN.out; omega
     obtain rfl:X = B:=by rw [HX.out,HBB.out,HN.out,List.take_length]
     clear hK hcs HC HC2 HZ HBB h1 h2 h3 hlt hk
     go_wp2_with fail
     refine c2.calls0 ?_
     intro wp hp
     replace HS:=lH (HS.out.step hp)
     clear hp
     by_cases hz:Pd.size = 0
     · obtain rfl:Pd = ⟨#[]⟩:=by apply ba_ext; exact List.length_eq_zero_iff.1 hz
       have hcnt:cntP l = n:=by unfold cntP; rw [<- HPd.out]; rw [<- HN.out]; rfl
       by_cases h98:98 < n
       · have t1:decide ((98:Int) < (n:Int)) = true:=decide_eq_true (by omega)
         have HF:=lH (show V = _ from HV.out.trans (packV_big l HK.out (Or.inl (by omega))))
         clear hcnt hz
         go_wp2_with fail
         go_ret3
         exact ⟨congrArg Ending.returned HF.out.symm,HS.out⟩
       · have t1:decide ((98:Int) < (n:Int)) = false:=decide_eq_false (by omega)
         by_cases h99:9999 < X.size
         · have t2:decide ((9999:Int) < (X.size:Int)) = true:=decide_eq_true (by omega)
           have HF:=lH (show V = _ from HV.out.trans (packV_big l HK.out (Or.inr (by rw [<- HX.out]; omega))))
           clear hcnt hz
           go_wp2_with fail
           go_ret3
           exact ⟨congrArg Ending.returned HF.out.symm,HS.out⟩
         · have t2:decide ((9999:Int) < (X.size:Int)) = false:=decide_eq_false (by omega)
           have hfin:packV l = .tuple #[.string X,.int .i64 (n:Int),.int .i64 0]:=by
             rw [packV_ok l HK.out (by omega) (by rw [<- HX.out,<- HPd.out]; show X.size + 0 <= _; omega),hcnt,<- HPd.out,<- HX.out]
             rw [show X ++ ⟨#[]⟩ = X from ba_ext (by rw [app_list]; simp)]
           have HF:=lH (show V = _ from HV.out.trans hfin)
           clear hcnt hz hfin
           go_wp2_with fail
           go_ret3
           exact ⟨congrArg Ending.returned HF.out.symm,HS.out⟩
     · have b1:=some_bytes Pd (by omega)
       have b2:=some_bytes_f Pd (by omega)
       have hcnt:cntP l = n + 1:=by unfold cntP; rw [<- HPd.out,if_neg hz,<- HN.out]
       obtain ⟨Y,hY⟩:∃ Y,X ++ Pd = Y:=⟨_,rfl⟩
       have f1:¬ 9223372036854775807 < X.size + Pd.size:=by omega
       have hYs:Y.size = X.size + Pd.size:=by rw [<- hY,ByteArray.size_append]
       by_cases h98:98 < n + 1
       · have t1:decide ((98:Int) < (n:Int) + 1) = true:=decide_eq_true (by omega)
         have HF:=lH (show V = _ from HV.out.trans (packV_big l HK.out (Or.inl (by omega))))
         clear hcnt hz hYs
         go_wp2_with fail
         go_ret3
         exact ⟨congrArg Ending.returned HF.out.symm,HS.out⟩
       · have t1:decide ((98:Int) < (n:Int) + 1) = false:=decide_eq_false (by omega)
         by_cases h99:9999 < X.size + Pd.size
         · have t2:decide ((9999:Int) < (Y.size:Int)) = true:=decide_eq_true (by omega)
           have HF:=lH (show V = _ from HV.out.trans (packV_big l HK.out (Or.inr (by rw [<- HX.out,<- HPd.out]; omega))))
           clear hcnt hz hYs
           go_wp2_with fail
           go_ret3
           exact ⟨congrArg Ending.returned HF.out.symm,HS.out⟩
         · have t2:decide ((9999:Int) < (Y.size:Int)) = false:=decide_eq_false (by omega)
           have hfin:packV l = .tuple #[.string Y,.int .i64 ((n:Int) + 1),.int .i64 0]:=by
             rw [packV_ok l HK.out (by omega) (by rw [<- HX.out,<- HPd.out]; omega),hcnt,<- HPd.out,<- HX.out,hY]; rfl
           have HF:=lH (show V = _ from HV.out.trans hfin)
           clear hcnt hz hfin hYs
           go_wp2_with fail
           go_ret3
           exact ⟨congrArg Ending.returned HF.out.symm,HS.out⟩
end Opt
namespace Opt
def decs (s:ByteArray):Nat -> Option (List P2 × Nat)
 | 0 => some ([],0)
 | k+1 => match decs s k with
   | none => none
   | some (L,A) => if okD (s.extract A s.size) then some (L ++ [(decI (s.extract A s.size),decD (s.extract A s.size))],A + (decN (s.extract A s.size)).toNat) else none
def lastB (L:List P2):Bool:=match L.getLast? with | some p => decide (p.1 = PB) | none => false
def trimP (L:List P2):List P2:=if lastB L then L.dropLast else L
def unpOk (s:ByteArray) (m:Int):Option (List P2 × Nat):=match decs s m.toNat with
 | none => none
 | some (L,A) => if packOk (trimP L) = true /\ (cntP (trimP L):Int) = m /\ packX (trimP L) = s.extract 0 A then some (trimP L,A) else none
def unpL (s:ByteArray) (m:Int):List P2:=match unpOk s m with | some (L,_) => L | none => []
def unpN (s:ByteArray) (m:Int):Int:=match unpOk s m with | some (_,A) => (A:Int) | none => 0
def unpE (s:ByteArray) (m:Int):Int:=match unpOk s m with | some _ => 0 | none => 5
theorem unp_no (s:ByteArray) (m:Int) (h:unpOk s m = none):unpL s m = [] /\ unpN s m = 0 /\ unpE s m = 5:=by
 unfold unpL unpN unpE; rw [h]; exact ⟨rfl,rfl,rfl⟩
theorem unp_yes (s:ByteArray) (m:Int) (L:List P2) (A:Nat) (h:unpOk s m = some (L,A)):unpL s m = L /\ unpN s m = A /\ unpE s m = 0:=by
 unfold unpL unpN unpE; rw [h]; exact ⟨rfl,rfl,rfl⟩
theorem hd_le (s:ByteArray) (h:okD s = true):4 <= (hd s).1 /\ (hd s).1 <= (s.size:Int):=by
 have h0:=h
 unfold okD at h
 rw [Bool.and_eq_true,Bool.and_eq_true,Bool.and_eq_true] at h
 have h1:=of_decide_eq_true h.1.1.1
 have h2:=of_decide_eq_true h.1.1.2
 have h3:4 <= (hd s).2:=by unfold hd; split; exact (by decide:4 <= 10); exact Nat.le_refl 4
 exact ⟨by omega,h2⟩
theorem decN_nat (s:ByteArray) (h:okD s = true):∃ n:Nat,decN s = (n:Int) /\ 4 <= n /\ n <= s.size:=by
 have:=hd_le s h
 refine ⟨(hd s).1.toNat, ?_,by omega,by omega⟩
 unfold decN
 rw [if_pos h]; omega
theorem decs_len (s:ByteArray):∀ (k:Nat) (L:List P2) (A:Nat),decs s k = some (L,A) -> L.length = k /\ A <= s.size /\ 4 * k <= A:=by
 intro k
 induction k with
 | zero => intro L A h; cases h; exact ⟨rfl,Nat.zero_le _,Nat.zero_le _⟩
 | succ k ih =>
   intro L A h
   unfold decs at h
   cases hd:decs s k with
   | none => rw [hd] at h; cases h
   | some q =>
     obtain ⟨L',A'⟩:=q
     rw [hd] at h
     obtain ⟨e1,e2,e3⟩:=ih L' A' hd
     simp only at h
     split at h
     · rename_i hok
       obtain ⟨n,hn,h4,hns⟩:=decN_nat _ hok
       rw [ByteArray.size_extract] at hns
       simp only [Option.some.injEq,Prod.mk.injEq] at h
       obtain ⟨rfl,rfl⟩:=h
       rw [hn]
       refine ⟨by rw [List.length_append,e1]; rfl, ?_, ?_⟩
       · simp only [Int.toNat_natCast]; omega
       · simp only [Int.toNat_natCast]; omega
     · cases h
theorem decs_step (s:ByteArray) (k:Nat) (L:List P2) (A:Nat) (h:decs s k = some (L,A)):decs s (k + 1) = if okD (s.extract A s.size) then some (L ++ [(decI (s.extract A s.size),decD (s.extract A s.size))],A + (decN (s.extract A s.size)).toNat) else none:=by
 show (match decs s k with | none => none | some (L,A) => if okD (s.extract A s.size) then some (L ++ [(decI (s.extract A s.size),decD (s.extract A s.size))],A + (decN (s.extract A s.size)).toNat) else none) = _
 rw [h]
theorem decs_none (s:ByteArray) (k m:Nat) (h:decs s k = none) (hk:k <= m):decs s m = none:=by
 induction m with
 | zero => obtain rfl : k = 0 := by omega
           exact h
 | succ m ih =>
   by_cases e:k = m + 1
   · rw [<- e]; exact h
   · unfold decs; rw [ih (by omega)]
def MkO (f:Nat) (args:Array Value) (L:List P2) (n e:Int):Prop:=∀ w,Calls Tryz.prog f args w fun x w' => ∃ v,x = .returned (.tuple #[v,.int .i64 n,.int .i64 e]) /\ OptsS w' v L /\ Below w.heap.size w w'
def PostO (w:World) (L:List P2) (n e:Int) (x:Ending) (w':World):Prop:=∃ v,x = .returned (.tuple #[v,.int .i64 n,.int .i64 e]) /\ OptsS w' v L /\ Below w.heap.size w w'
theorem MkO.calls0 {f:Nat} {args:Array Value} {L:List P2} {n e:Int} (h:MkO f args L n e) {w:World} {R:Ending -> World -> Prop} (k:∀ v w',OptsS w' v L -> Since w w' -> R (.returned (.tuple #[v,.int .i64 n,.int .i64 e])) w'):Calls Tryz.prog f args w R :=
 (h w).mono fun _ _ ⟨v,he,ho,hb⟩ => by subst he; exact k v _ ho hb
def OwnO (w W:World) (v:Value) (k:Nat) (L:List P2):Prop:=W.ownsRow w.heap.size 152 2 v k (L.flatMap oc) /\ L.length = k
theorem OwnO.since {w W W':World} {v:Value} {k:Nat} {L:List P2} (h:OwnO w W v k L) (hs:Since W W'):OwnO w W' v k L:=⟨own_since h.1 hs,h.2⟩
theorem OwnO.alloc {w W:World} {v:Value} {k:Nat} {L:List P2} (h:OwnO w W v k L) (o:Obj):OwnO w (W.alloc o) v k L:=⟨World.ownsRow.alloc h.1 o,h.2⟩
theorem OwnO.read {w W:World} {v:Value} {k:Nat} {L:List P2} (h:OwnO w W v k L):OptsS W v L:=by
 obtain ⟨h1,rfl⟩:=h
 exact OptsS.own h1
theorem elemO:ElemIs 107 152 (.agg #[.string ⟨#[]⟩,.string ⟨#[]⟩]) 2 32:=⟨Tryz.underlying107,by kernel_rfl,rfl,by decide⟩
theorem own_o1 {w W:World} {v:Value} {k:Nat} {L M:List P2} {i d:ByteArray} (h:W.ownsRow w.heap.size 152 2 v (k + 1) (L.flatMap oc ++ #[Value.string i,Value.string d].toList)) (hk:L.length = k) (hM:M = L ++ [(i,d)]):OwnO w W v (k + 1) M:=by
 subst hM hk
 refine ⟨?_,by rw [List.length_append]; rfl⟩
 rw [List.flatMap_append]
 exact h
theorem unp_range (s:ByteArray) (m:Int) (h:m < 0 ∨ 98 < m):MkO 116 #[.string s,.int .i64 m] [] 0 5:=by
 intro w
 have HS:=lH (Since.refl w)
 by_cases h1:m < 0
 · have t1:decide (m < 0) = true:=decide_eq_true h1
   clear h
   go_enter Tryz.func116,Tryz.ntmps116
   go_wp2_with fail
   refine wp_scope_some 1 ?_
   go_wp2_with fail
   go_step3
   refine ⟨_,rfl, ?_⟩
   go_wp2_with fail
   go_ret3
   exact ⟨_,rfl,OptsS.nil _,HS.out⟩
 · have t1:decide (m < 0) = false:=decide_eq_false h1
   have t2:decide (98 < m) = true:=decide_eq_true (by omega)
   clear h
   go_enter Tryz.func116,Tryz.ntmps116
   go_wp2_with fail
   refine wp_scope_some 1 ?_
   go_wp2_with fail
   go_step3
   refine ⟨_,rfl, ?_⟩
   go_wp2_with fail
   go_ret3
   exact ⟨_,rfl,OptsS.nil _,HS.out⟩
theorem packV_nil:packV [] = .tuple #[.string ⟨#[]⟩,.int .i64 0,.int .i64 0]:=by
 unfold packV
 rw [show packX [] = ⟨#[]⟩ by decide +kernel,show packN [] = 0 by decide +kernel,show packE [] = 0 by decide +kernel]
theorem pack_any (l:List P2) (hl:l.length <= 600) (hsz:∀ p ∈ l,p.1.size <= 1000000 /\ p.2.size <= 1000000):RdO 98 l (fun x => #[x]) (packV l):=by
 by_cases h:l = []
 · subst h
   have c2:=padding_mak 0 (by decide) (by decide) ⟨#[]⟩ rfl
   rw [packV_nil]
   exact pack_nil c2
 · have h0:0 < l.length:=List.length_pos_iff.2 h
   exact pack_rd l hl h0 hsz _ rfl _ _ rfl rfl (fun hk => padding_mak _ (by omega) (by have:=catP_size l hk; omega) _ rfl)
theorem rpack_any (l:List P2) (hl:l.length <= 3000) (hsz:∀ p ∈ l,p.1.size <= 1000000 /\ p.2.size <= 1000000):RdO 65 l (fun x => #[x]) (packV l):=by
 by_cases h:l = []
 · subst h
   have c2:=rpadding_mak 0 (by decide) (by decide) ⟨#[]⟩ rfl
   rw [packV_nil]
   exact rpack_nil c2
 · have h0:0 < l.length:=List.length_pos_iff.2 h
   exact rpack_rd l hl h0 hsz _ rfl _ _ rfl rfl (fun hk => rpadding_mak _ (by omega) (by have:=catP_size l hk; omega) _ rfl)
theorem packE_zero (l:List P2):packE l = 0 ↔ packOk l = true:=by
 unfold packE
 constructor
 · intro h
   split at h
   · cases h
   · split at h
     · assumption
     · cases h
 · intro h
   have hk:okN l l.length = true:=by unfold packOk at h; rw [Bool.and_eq_true,Bool.and_eq_true] at h; exact h.1.1
   rw [hk,if_neg (by decide),if_pos h]
theorem dec_sizes (s:ByteArray):(decI s).size <= s.size /\ (decD s).size <= s.size:=by
 unfold decI decD
 split
 · rw [ByteArray.size_extract,ByteArray.size_extract]; omega
 · exact ⟨Nat.zero_le _,Nat.zero_le _⟩
theorem decs_sizes (s:ByteArray):∀ (k:Nat) (L:List P2) (A:Nat),decs s k = some (L,A) -> ∀ p ∈ L,p.1.size <= s.size /\ p.2.size <= s.size:=by
 intro k
 induction k with
 | zero => intro L A h; cases h; intro p hp; cases hp
 | succ k ih =>
   intro L A h
   unfold decs at h
   cases hd:decs s k with
   | none => rw [hd] at h; cases h
   | some q =>
     obtain ⟨L',A'⟩:=q
     rw [hd] at h
     simp only at h
     split at h
     · simp only [Option.some.injEq,Prod.mk.injEq] at h
       obtain ⟨rfl,rfl⟩:=h
       intro p hp
       rcases List.mem_append.1 hp with hp | hp
       · exact ih L' A' hd p hp
       · obtain rfl:p = _:=by simpa using hp
         have h9:=dec_sizes (s.extract A' s.size)
         rw [ByteArray.size_extract] at h9
         exact ⟨by have:=h9.1; show (decI _).size <= _; omega,by have:=h9.2; show (decD _).size <= _; omega⟩
     · cases h
theorem trim_at (L:List P2) (m:Nat) (p:P2) (hL:L.length = m + 1) (hp:L[m]? = some p):trimP L = if p.1 = PB then L.take m else L:=by
 have hl:L.getLast? = some p:=by rw [List.getLast?_eq_getElem?,hL]; exact hp
 unfold trimP lastB
 rw [hl]
 by_cases h:p.1 = PB
 · rw [if_pos h]
   simp only [decide_eq_true h,if_true]
   rw [List.dropLast_eq_take,hL]; rfl
 · rw [if_neg h]
   simp [h]
theorem unp_fail (s:ByteArray) (n k:Nat) (h:decs s k = none) (hk:k <= n):unpOk s (n:Int) = none:=by
 unfold unpOk
 rw [Int.toNat_natCast,decs_none s k n h hk]
theorem unp_at (s:ByteArray) (n A:Nat) (L:List P2) (h:decs s n = some (L,A)):unpOk s (n:Int) = if packOk (trimP L) = true /\ (cntP (trimP L):Int) = (n:Int) /\ packX (trimP L) = s.extract 0 A then some (trimP L,A) else none:=by
 unfold unpOk
 rw [Int.toNat_natCast,h]
theorem packN_ok (l:List P2) (h:packOk l = true):packN l = (cntP l:Int):=by unfold packN; rw [if_pos h]
set_option maxHeartbeats 16000000 in
theorem unp_main (s:ByteArray) (hs:s.size <= 100000) (n:Nat) (h1:1 <= n) (h98:n <= 98) (L0:List P2) (N0 E0:Int) (hL:L0 = unpL s n) (hN:N0 = unpN s n) (hE:E0 = unpE s n):∀ w,Calls Tryz.prog 116 #[.string s,.int .i64 (n:Int)] w (PostO w L0 N0 E0):=by
 intro w
 have HL:=lH hL
 have HNN:=lH hN
 have HE:=lH hE
 have t1:decide ((n:Int) < 0) = false:=decide_eq_false (by omega)
 have t2:decide ((98:Int) < (n:Int)) = false:=decide_eq_false (by omega)
 clear hL hN hE
 go_enter Tryz.func116,Tryz.ntmps116
 go_wp2_with fail
 refine wp_scope_some 1 ?_
 go_wp2_with fail
 go_loopw [7,11,12,13,14,22] (fun lv at' _ _ _ i wr => ∃ k A:Nat,k <= n /\ i = .int .i64 (k:Int) /\ at' = .int .i64 (A:Int) /\ A <= s.size /\ ∃ L,Hid (decs s k = some (L,A)) /\ Hid (OwnO w wr lv k L) /\ Hid (Since w wr)) (fun _ _ _ _ _ i _ => n - (intOf i).toNat)
 case atStart => exact ⟨0,0,by omega,rfl,rfl,by omega,[],lH rfl,lH ⟨World.ownsRow_nil _ _ _ _,rfl⟩,lH (Since.refl w)⟩
 case round =>
   obtain ⟨k,A,hk,rfl,rfl,hA,L,HD,HO,HS⟩:=hrel
   by_cases hlt:k < n
   · have i1:(0:Int) <= (A:Int):=by omega
     have i2:(A:Int) <= (s.size:Int):=by omega
     have HST:=lH (decs_step s k L A HD.out)
     obtain ⟨T,hT⟩:∃ T,s.extract A s.size = T:=⟨_,rfl⟩
     have hTs:T.size <= 100000:=by rw [<- hT,ByteArray.size_extract]; omega
     have hTz:T.size = s.size - A:=by rw [<- hT,ByteArray.size_extract]; omega
     have c1:=decode_mk T hTs
     have hst:=HST.out
     rw [hT] at hst
     cases hok:okD T with
     | false =>
       rw [hok,if_neg (by decide)] at hst
       have HB:=lH (unp_fail s n (k + 1) hst (by omega))
       rw [decV_no T hok] at c1
       unfold noO Z2 at c1
       clear hst hok HST hTz
       obtain ⟨e1,e2,e3⟩:=unp_no s (n:Int) HB.out
       have HF:=lH (show (L0 = [] /\ N0 = 0 /\ E0 = 5) from ⟨HL.out.trans e1,HNN.out.trans e2,HE.out.trans e3⟩)
       clear e1 e2 e3
       go_wp2_with fail
       refine c1.calls0 ?_
       intro wz hz
       replace HO:=lH (HO.out.since hz)
       replace HS:=lH (HS.out.step hz)
       clear hz
       go_wp2_with fail
       go_step3
       refine ⟨_,rfl, ?_⟩
       go_wp2_with fail
       go_ret3
       obtain ⟨rfl,rfl,rfl⟩:=HF.out
       exact ⟨_,rfl,OptsS.nil _,HS.out.alloc _⟩
     | true =>
       rw [hok,if_pos rfl] at hst
       obtain ⟨q,hq,hq4,hqs⟩:=decN_nat T hok
       have hv:decV T = .tuple #[.agg (C2 (decI T) (decD T)),.int .i64 (q:Int),.int .i64 0]:=by unfold decV decE; rw [hq,if_pos hok]
       rw [hv] at c1
       rw [hq,Int.toNat_natCast] at hst
       obtain ⟨I,hI⟩:∃ I,decI T = I:=⟨_,rfl⟩
       obtain ⟨D,hD⟩:∃ D,decD T = D:=⟨_,rfl⟩
       rw [hI,hD] at c1 hst
       unfold C2 at c1
       have HB:=lH hst
       have hAq:A + q <= s.size:=by omega
       clear hst hok HST hTz hv hq hI hD hqs
       go_wp2_with fail
       refine c1.calls0 ?_
       intro wz hz
       replace HO:=lH (HO.out.since hz)
       replace HS:=lH (HS.out.step hz)
       clear hz
       go_wp2_with (at_builtin; refine app_own_h elemO rfl _ _ (by rfl) w (wz.alloc (.cells #[.string I,.string D] 152)) (wz.heap.size + 1) (by simp) _ k _ (by rfl) (HO.out.alloc _).1 (HS.out.alloc _) #[.string I,.string D] 1 1 (by rfl) rfl (fun u hu => by simp at hu; rcases hu with rfl | rfl <;> rfl) (by unfold maxLen; omega) (by omega) ?_)
       intro v2 W2 ho2 hs2 hk2
       have HO2:=lH (own_o1 ho2 HO.out.2 rfl)
       have HS2:=lH hs2
       clear ho2 hs2 hk2
       go_wp2_with fail
       go_roundw
       case rel => exact ⟨k + 1,A + q,by omega,by go_num,by go_num,hAq,_,HB,HO2,HS2⟩
       case measure => simp [intOf]; omega
   · obtain rfl:n = k:=by omega
     obtain ⟨m,rfl⟩:∃ m,n = m + 1:=⟨n - 1,by omega⟩
     have hLl:L.length = m + 1:=HO.out.2
     obtain ⟨b,o,c,hvv,hc1,hc2,hb,hcell⟩:=HO.out.read.form (by omega)
     rw [hLl] at hvv hc1
     subst hvv
     obtain ⟨⟨i,d⟩,hp⟩:∃ p,L[m]? = some p:=⟨L[m]'(by omega),List.getElem?_eq_getElem _⟩
     obtain ⟨m0,_⟩:=hcell m _ hp
     have htr:=trim_at L m _ hLl hp
     have hun:=unp_at s (m + 1) A L HD.out
     have hsz:=decs_sizes s (m + 1) L A HD.out
     have i1:(0:Int) <= (A:Int):=by omega
     have i2:(A:Int) <= (s.size:Int):=by omega
     have i3:(0:Int) <= (m:Int):=by omega
     have i4:(m:Int) < (m:Int) + 1:=by omega
     have i5:(m:Int) <= (c:Int):=by omega
     have HXS:=lH HO.out.read
     obtain ⟨P,hP⟩:∃ P,s.extract 0 A = P:=⟨_,rfl⟩
     rw [hP] at hun
     by_cases hpb:i = PB
     · have t3:(i.toList == [80,66]) = true:=by rw [<- PB_list]; exact str_eq_t hpb
       rw [if_pos hpb] at htr
       rw [htr] at hun
       have hX2:=lH (HXS.out.take m (by omega))
       have c3:=pack_any (L.take m) (by rw [List.length_take]; omega) (fun p hp => by have:=hsz p (List.mem_of_mem_take hp); omega)
       obtain ⟨L',hL'⟩:∃ L',L.take m = L':=⟨_,rfl⟩
       rw [hL'] at hX2 c3 hun
       clear htr hpb hcell hsz hL' hp
       unfold packV at c3
       clear HO HD
       by_cases h5:packE L' = 0
       · by_cases h6:packN L' = ((m + 1:Nat):Int)
         · by_cases h7:packX L' = P
           · have hok:=(packE_zero _).1 h5
             have h8:unpOk s ((m + 1:Nat):Int) = some (L',A):=by rw [hun,if_pos ⟨hok,by rw [<- packN_ok _ hok]; exact h6,h7⟩]
             obtain ⟨e1,e2,e3⟩:=unp_yes s _ _ _ h8
             have HF:=lH (show (L0 = L' /\ N0 = (A:Int) /\ E0 = 0) from ⟨HL.out.trans e1,HNN.out.trans e2,HE.out.trans e3⟩)
             rw [h5,h6,h7] at c3
             have t7:=str_eq_t (rfl:P = P)
             clear e1 e2 e3 h5 h6 h7 h8 hok hun
             go_wp2_with fail
             refine c3.calls0 hX2.out ?_
             intro wq hq
             replace hX2:=lH (hX2.out.since hq)
             replace HS:=lH (HS.out.step hq)
             clear hq
             go_wp2_with fail
             simp only [Exit.jumps]
             go_ret3
             obtain ⟨rfl,rfl,rfl⟩:=HF.out
             exact ⟨_,rfl,hX2.out,HS.out⟩
           · have HB:=lH (show unpOk s ((m + 1:Nat):Int) = none by rw [hun,if_neg (fun h => h7 h.2.2)])
             rw [h5,h6] at c3
             have t7:=str_ne_f h7
             obtain ⟨X9,hX9⟩:∃ X9,packX L' = X9:=⟨_,rfl⟩
             rw [hX9] at c3 t7
             clear h5 h6 h7 hun hX9
             obtain ⟨e1,e2,e3⟩:=unp_no s _ HB.out
             have HF:=lH (show (L0 = [] /\ N0 = 0 /\ E0 = 5) from ⟨HL.out.trans e1,HNN.out.trans e2,HE.out.trans e3⟩)
             clear e1 e2 e3
             go_wp2_with fail
             refine c3.calls0 hX2.out ?_
             intro wq hq
             replace hX2:=lH (hX2.out.since hq)
             replace HS:=lH (HS.out.step hq)
             clear hq
             go_wp2_with fail
             go_step3
             go_wp2_with fail
             simp only [Exit.jumps]
             go_ret3
             obtain ⟨rfl,rfl,rfl⟩:=HF.out
             exact ⟨_,rfl,OptsS.nil _,HS.out⟩
         · have HB:=lH (show unpOk s ((m + 1:Nat):Int) = none by rw [hun,if_neg (fun h => h6 (by rw [packN_ok _ h.1]; exact h.2.1))])
           have t6:(packN L' == (m:Int) + 1) = false:=by rw [beq_eq_false_iff_ne]; intro h; exact h6 (by rw [h]; omega)
           rw [h5] at c3
           obtain ⟨X9,hX9⟩:∃ X9,packX L' = X9:=⟨_,rfl⟩
           obtain ⟨N9,hN9⟩:∃ N9,packN L' = N9:=⟨_,rfl⟩
           rw [hX9,hN9] at c3
           rw [hN9] at t6
           clear h5 h6 hun hX9 hN9
           obtain ⟨e1,e2,e3⟩:=unp_no s _ HB.out
           have HF:=lH (show (L0 = [] /\ N0 = 0 /\ E0 = 5) from ⟨HL.out.trans e1,HNN.out.trans e2,HE.out.trans e3⟩)
           clear e1 e2 e3
           go_wp2_with fail
           refine c3.calls0 hX2.out ?_
           intro wq hq
           replace hX2:=lH (hX2.out.since hq)
           replace HS:=lH (HS.out.step hq)
           clear hq
           go_wp2_with fail
           go_step3
           go_wp2_with fail
           simp only [Exit.jumps]
           go_ret3
           obtain ⟨rfl,rfl,rfl⟩:=HF.out
           exact ⟨_,rfl,OptsS.nil _,HS.out⟩
       · have HB:=lH (show unpOk s ((m + 1:Nat):Int) = none by rw [hun,if_neg (fun h => h5 ((packE_zero _).2 h.1))])
         have t5:(packE L' == 0) = false:=beq_eq_false_iff_ne.2 h5
         obtain ⟨X9,hX9⟩:∃ X9,packX L' = X9:=⟨_,rfl⟩
         obtain ⟨N9,hN9⟩:∃ N9,packN L' = N9:=⟨_,rfl⟩
         obtain ⟨E9,hE9⟩:∃ E9,packE L' = E9:=⟨_,rfl⟩
         rw [hX9,hN9,hE9] at c3
         rw [hE9] at t5
         clear h5 hun hX9 hN9 hE9
         obtain ⟨e1,e2,e3⟩:=unp_no s _ HB.out
         have HF:=lH (show (L0 = [] /\ N0 = 0 /\ E0 = 5) from ⟨HL.out.trans e1,HNN.out.trans e2,HE.out.trans e3⟩)
         clear e1 e2 e3
         go_wp2_with fail
         refine c3.calls0 hX2.out ?_
         intro wq hq
         replace hX2:=lH (hX2.out.since hq)
         replace HS:=lH (HS.out.step hq)
         clear hq
         go_wp2_with fail
         go_step3
         go_wp2_with fail
         simp only [Exit.jumps]
         go_ret3
         obtain ⟨rfl,rfl,rfl⟩:=HF.out
         exact ⟨_,rfl,OptsS.nil _,HS.out⟩
     · have t3:(i.toList == [80,66]) = false:=by rw [<- PB_list]; exact str_ne_f hpb
       rw [if_neg hpb] at htr
       rw [htr] at hun
       have c3:=pack_any L (by omega) (fun p hp => by have:=hsz p hp; omega)
       clear htr hpb hcell hsz hp
       unfold packV at c3
       clear HO HD
       by_cases h5:packE L = 0
       · by_cases h6:packN L = ((m + 1:Nat):Int)
         · by_cases h7:packX L = P
           · have hok:=(packE_zero _).1 h5
             have h8:unpOk s ((m + 1:Nat):Int) = some (L,A):=by rw [hun,if_pos ⟨hok,by rw [<- packN_ok _ hok]; exact h6,h7⟩]
             obtain ⟨e1,e2,e3⟩:=unp_yes s _ _ _ h8
             have HF:=lH (show (L0 = L /\ N0 = (A:Int) /\ E0 = 0) from ⟨HL.out.trans e1,HNN.out.trans e2,HE.out.trans e3⟩)
             rw [h5,h6,h7] at c3
             have t7:=str_eq_t (rfl:P = P)
             clear e1 e2 e3 h5 h6 h7 h8 hok hun
             go_wp2_with fail
             refine c3.calls0 HXS.out ?_
             intro wq hq
             replace HXS:=lH (HXS.out.since hq)
             replace HS:=lH (HS.out.step hq)
             clear hq
             go_wp2_with fail
             simp only [Exit.jumps]
             go_ret3
             obtain ⟨rfl,rfl,rfl⟩:=HF.out
             exact ⟨_,rfl,HXS.out,HS.out⟩
           · have HB:=lH (show unpOk s ((m + 1:Nat):Int) = none by rw [hun,if_neg (fun h => h7 h.2.2)])
             rw [h5,h6] at c3
             have t7:=str_ne_f h7
             obtain ⟨X9,hX9⟩:∃ X9,packX L = X9:=⟨_,rfl⟩
             rw [hX9] at c3 t7
             clear h5 h6 h7 hun hX9
             obtain ⟨e1,e2,e3⟩:=unp_no s _ HB.out
             have HF:=lH (show (L0 = [] /\ N0 = 0 /\ E0 = 5) from ⟨HL.out.trans e1,HNN.out.trans e2,HE.out.trans e3⟩)
             clear e1 e2 e3
             go_wp2_with fail
             refine c3.calls0 HXS.out ?_
             intro wq hq
             replace HXS:=lH (HXS.out.since hq)
             replace HS:=lH (HS.out.step hq)
             clear hq
             go_wp2_with fail
             go_step3
             go_wp2_with fail
             simp only [Exit.jumps]
             go_ret3
             obtain ⟨rfl,rfl,rfl⟩:=HF.out
             exact ⟨_,rfl,OptsS.nil _,HS.out⟩
         · have HB:=lH (show unpOk s ((m + 1:Nat):Int) = none by rw [hun,if_neg (fun h => h6 (by rw [packN_ok _ h.1]; exact h.2.1))])
           have t6:(packN L == (m:Int) + 1) = false:=by rw [beq_eq_false_iff_ne]; intro h; exact h6 (by rw [h]; omega)
           rw [h5] at c3
           obtain ⟨X9,hX9⟩:∃ X9,packX L = X9:=⟨_,rfl⟩
           obtain ⟨N9,hN9⟩:∃ N9,packN L = N9:=⟨_,rfl⟩
           rw [hX9,hN9] at c3
           rw [hN9] at t6
           clear h5 h6 hun hX9 hN9
           obtain ⟨e1,e2,e3⟩:=unp_no s _ HB.out
           have HF:=lH (show (L0 = [] /\ N0 = 0 /\ E0 = 5) from ⟨HL.out.trans e1,HNN.out.trans e2,HE.out.trans e3⟩)
           clear e1 e2 e3
           go_wp2_with fail
           refine c3.calls0 HXS.out ?_
           intro wq hq
           replace HXS:=lH (HXS.out.since hq)
           replace HS:=lH (HS.out.step hq)
           clear hq
           go_wp2_with fail
           go_step3
           go_wp2_with fail
           simp only [Exit.jumps]
           go_ret3
           obtain ⟨rfl,rfl,rfl⟩:=HF.out
           exact ⟨_,rfl,OptsS.nil _,HS.out⟩
       · have HB:=lH (show unpOk s ((m + 1:Nat):Int) = none by rw [hun,if_neg (fun h => h5 ((packE_zero _).2 h.1))])
         have t5:(packE L == 0) = false:=beq_eq_false_iff_ne.2 h5
         obtain ⟨X9,hX9⟩:∃ X9,packX L = X9:=⟨_,rfl⟩
         obtain ⟨N9,hN9⟩:∃ N9,packN L = N9:=⟨_,rfl⟩
         obtain ⟨E9,hE9⟩:∃ E9,packE L = E9:=⟨_,rfl⟩
         rw [hX9,hN9,hE9] at c3
         rw [hE9] at t5
         clear h5 hun hX9 hN9 hE9
         obtain ⟨e1,e2,e3⟩:=unp_no s _ HB.out
         have HF:=lH (show (L0 = [] /\ N0 = 0 /\ E0 = 5) from ⟨HL.out.trans e1,HNN.out.trans e2,HE.out.trans e3⟩)
         clear e1 e2 e3
         go_wp2_with fail
         refine c3.calls0 HXS.out ?_
         intro wq hq
         replace HXS:=lH (HXS.out.since hq)
         replace HS:=lH (HS.out.step hq)
         clear hq
         go_wp2_with fail
         go_step3
         go_wp2_with fail
         simp only [Exit.jumps]
         go_ret3
         obtain ⟨rfl,rfl,rfl⟩:=HF.out
         exact ⟨_,rfl,OptsS.nil _,HS.out⟩
end Opt
namespace Opt
theorem ext00 (s:ByteArray):s.extract 0 0 = ⟨#[]⟩:=by apply ba_ext; rw [ext_list]; rfl
theorem unp_at0 (s:ByteArray):unpOk s 0 = some ([],0):=by
 unfold unpOk
 show (if packOk (trimP []) = true /\ (cntP (trimP []):Int) = 0 /\ packX (trimP []) = s.extract 0 0 then some (trimP [],0) else none) = _
 have e:trimP [] = []:=rfl
 rw [e,if_pos ⟨by decide +kernel,by decide +kernel,by rw [ext00]; decide +kernel⟩]
theorem unp_out (s:ByteArray) (m:Int) (h:m < 0 ∨ 98 < m):unpOk s m = none:=by
 unfold unpOk
 cases hd:decs s m.toNat with
 | none => rfl
 | some q =>
   obtain ⟨L,A⟩:=q
   show (if packOk (trimP L) = true /\ (cntP (trimP L):Int) = m /\ packX (trimP L) = s.extract 0 A then some (trimP L,A) else none) = none
   rw [if_neg]
   rintro ⟨h1,h2,-⟩
   unfold packOk at h1
   rw [Bool.and_eq_true,Bool.and_eq_true] at h1
   have:=of_decide_eq_true h1.1.2
   omega
theorem unp_zero (s:ByteArray):MkO 116 #[.string s,.int .i64 0] [] 0 0:=by
 intro w
 have hx:=ext00 s
 have c3:=pack_any [] (by decide) (fun p hp => by cases hp)
 rw [packV_nil] at c3
 go_enter Tryz.func116,Tryz.ntmps116
 go_wp2_with fail
 refine wp_scope_some 1 ?_
 go_wp2_with fail
 go_loopw [7,11,12,13,14,22] (fun lv at' _ _ _ i wr => i = .int .i64 0 /\ at' = .int .i64 0 /\ lv = .slice none 0 0 /\ Hid (Since w wr)) (fun _ _ _ _ _ i _ => 0 - (intOf i).toNat)
 case atStart => exact ⟨rfl,rfl,rfl,lH (Since.refl w)⟩
 case round =>
   obtain ⟨rfl,rfl,rfl,HS⟩:=hrel
   go_wp2_with fail
   refine c3.calls0 (OptsS.nil _) ?_
   intro wq hq
   replace HS:=lH (HS.out.step hq)
   clear hq
   go_wp2_with fail
   simp only [Exit.jumps]
   go_ret3
   exact ⟨_,rfl,OptsS.nil _,HS.out⟩
theorem unpack_any (s:ByteArray) (hs:s.size <= 100000) (m:Int) (L0:List P2) (N0 E0:Int) (hL:L0 = unpL s m) (hN:N0 = unpN s m) (hE:E0 = unpE s m):MkO 116 #[.string s,.int .i64 m] L0 N0 E0:=by
 by_cases h:m < 0 ∨ 98 < m
 · obtain ⟨e1,e2,e3⟩:=unp_no s m (unp_out s m h)
   rw [e1] at hL; rw [e2] at hN; rw [e3] at hE
   subst hL hN hE
   exact unp_range s m h
 · by_cases h0:m = 0
   · subst h0
     obtain ⟨e1,e2,e3⟩:=unp_yes s 0 _ _ (unp_at0 s)
     rw [e1] at hL; rw [e2] at hN; rw [e3] at hE
     subst hL hN hE
     exact unp_zero s
   · obtain ⟨n,rfl⟩:∃ n:Nat,m = (n:Int):=⟨m.toNat,by omega⟩
     exact fun w => unp_main s hs n (by omega) (by omega) L0 N0 E0 hL hN hE w
def OwnR (w W:World) (v:Value) (L:List P2):Prop:=W.ownsRow w.heap.size 126 2 v L.length (L.flatMap oc)
theorem OwnR.since {w W W':World} {v:Value} {L:List P2} (h:OwnR w W v L) (hs:Since W W'):OwnR w W' v L:=own_since h hs
theorem OwnR.alloc {w W:World} {v:Value} {L:List P2} (h:OwnR w W v L) (o:Obj):OwnR w (W.alloc o) v L:=World.ownsRow.alloc h o
theorem OwnR.read {w W:World} {v:Value} {L:List P2} (h:OwnR w W v L):OptsS W v L:=OptsS.own h
theorem relemO:ElemIs 75 126 (.agg #[.string ⟨#[]⟩,.string ⟨#[]⟩]) 2 32:=⟨Tryz.underlying75,by kernel_rfl,rfl,by decide⟩
theorem trim_snoc (L:List P2) (p:P2):trimP (L ++ [p]) = if p.1 = PB then L else L ++ [p]:=by
 have h:=trim_at (L ++ [p]) L.length p (by simp) (by simp)
 rw [h]
 simp
theorem own_r1 {w W:World} {v:Value} {L:List P2} {I D:ByteArray} (h:W.ownsRow w.heap.size 126 2 v (L.length + 1) (L.flatMap oc ++ #[Value.string I,Value.string D].toList)):OwnR w W v (L ++ [(I,D)]):=by
 unfold OwnR
 rw [List.length_append,List.flatMap_append]
 exact h
set_option maxHeartbeats 16000000 in
theorem runp_main (s:ByteArray) (hs:s.size <= 100000) (m:Int) (hm:-9223372036854775808 <= m /\ m <= 9223372036854775807) (hsm:s.size <= 9999) (L0:List P2) (N0 E0:Int) (hL:L0 = unpL s m) (hN:N0 = unpN s m) (hE:E0 = unpE s m):∀ w,Calls Tryz.prog 78 #[.string s,.int .i64 m] w (PostO w L0 N0 E0):=by
 intro w
 have HL:=lH hL
 have HNN:=lH hN
 have HE:=lH hE
 clear hL hN hE
 go_enter Tryz.func78,Tryz.ntmps78
 go_wp2_with fail
 go_loopw [7,8,9,10,11,12] (fun lv at' i _ _ _ wr => ∃ k A:Nat,k <= m.toNat /\ i = .int .i64 (k:Int) /\ at' = .int .i64 (A:Int) /\ A <= s.size /\ 4 * k <= A /\ ∃ L,Hid (decs s k = some (L,A)) /\ ∃ LL,Hid (LL = if k = m.toNat then trimP L else L) /\ LL.length <= k /\ Hid (∀ p ∈ LL,p.1.size <= s.size /\ p.2.size <= s.size) /\ Hid (OwnR w wr lv LL) /\ Hid (Since w wr)) (fun _ at' _ _ _ _ _ => s.size - (intOf at').toNat)
 case atStart => exact ⟨0,0,by omega,rfl,rfl,by omega,by omega,[],lH rfl,[],lH (by split <;> rfl),by decide,lH (fun p hp => by cases hp),lH (World.ownsRow_nil _ _ _ _),lH (Since.refl w)⟩
 case round =>
   obtain ⟨k,A,hk,rfl,rfl,hA,hkA,L,HD,LL,HLL,hLLk,HSZ,HO,HS⟩:=hrel
   by_cases hlt:(k:Int) < m
   · have i1:(0:Int) <= (A:Int):=by omega
     have i2:(A:Int) <= (s.size:Int):=by omega
     have t1:decide ((k:Int) < m) = true:=decide_eq_true hlt
     have HST:=lH (decs_step s k L A HD.out)
     obtain ⟨T,hT⟩:∃ T,s.extract A s.size = T:=⟨_,rfl⟩
     have hTs:T.size <= 100000:=by rw [<- hT,ByteArray.size_extract]; omega
     have hTz:T.size = s.size - A:=by rw [<- hT,ByteArray.size_extract]; omega
     have c1:=rdecode_mk T hTs
     have hst:=HST.out
     rw [hT] at hst
     cases hok:okD T with
     | false =>
       rw [hok,if_neg (by decide)] at hst
       have HB:Hid (unpOk s m = none):=lH (by
         unfold unpOk
         rw [decs_none s (k + 1) m.toNat hst (by omega)])
       rw [decV_no T hok] at c1
       unfold noO Z2 at c1
       clear hst hok HST hTz
       obtain ⟨e1,e2,e3⟩:=unp_no s m HB.out
       have HF:=lH (show (L0 = [] /\ N0 = 0 /\ E0 = 5) from ⟨HL.out.trans e1,HNN.out.trans e2,HE.out.trans e3⟩)
       clear e1 e2 e3
       go_wp2_with fail
       refine c1.calls0 ?_
       intro wz hz
       replace HO:=lH (HO.out.since hz)
       replace HS:=lH (HS.out.step hz)
       clear hz
       go_wp2_with fail
       go_ret3
       obtain ⟨rfl,rfl,rfl⟩:=HF.out
       exact ⟨_,rfl,OptsS.nil _,HS.out.alloc _⟩
     | true =>
       rw [hok,if_pos rfl] at hst
       obtain ⟨q,hq,hq4,hqs⟩:=decN_nat T hok
       have hv:decV T = .tuple #[.agg (C2 (decI T) (decD T)),.int .i64 (q:Int),.int .i64 0]:=by unfold decV decE; rw [hq,if_pos hok]
       have hz9:=dec_sizes T
       rw [hv] at c1
       rw [hq,Int.toNat_natCast] at hst
       obtain ⟨I,hI⟩:∃ I,decI T = I:=⟨_,rfl⟩
       obtain ⟨D,hD⟩:∃ D,decD T = D:=⟨_,rfl⟩
       rw [hI,hD] at c1 hst hz9
       unfold C2 at c1
       have HB:=lH hst
       have hAq:A + q <= s.size:=by omega
       have hA4:4 * (k + 1) <= A + q:=by omega
       have hkm:k ≠ m.toNat:=by omega
       have hLLe:LL = L:=by rw [HLL.out,if_neg hkm]
       have hSZ2:∀ p ∈ L ++ [(I,D)],p.1.size <= s.size /\ p.2.size <= s.size:=by
         intro p hp
         rcases List.mem_append.1 hp with hp | hp
         · exact HSZ.out p (by rw [hLLe]; exact hp)
         · obtain rfl:p = (I,D):=by simpa using hp
           exact ⟨by show I.size <= _; omega,by show D.size <= _; omega⟩
       have HSZ2:=lH hSZ2
       have hk1:(k + 1:Nat) <= m.toNat:=by omega
       by_cases hlast:(k:Int) < m - 1
       · have t2:decide ((k:Int) < m - 1) = true:=decide_eq_true hlast
         have HLL2:Hid (L ++ [(I,D)] = if k + 1 = m.toNat then trimP (L ++ [(I,D)]) else L ++ [(I,D)]):=lH (by rw [if_neg (by omega)])
         have hl2:(L ++ [(I,D)]).length <= k + 1:=by rw [List.length_append,<- hLLe]; show LL.length + 1 <= _; omega
         have HL2:=lH hl2
         rw [<- hLLe] at HB HLL2 HSZ2 HL2
         clear hst hok HST hTz hv hq hI hD hqs hlast hkm hLLe hSZ2 hl2 HLL HD hz9
         go_wp2_with fail
         refine c1.calls0 ?_
         intro wz hz
         replace HO:=lH (HO.out.since hz)
         replace HS:=lH (HS.out.step hz)
         clear hz
         go_wp2_with (at_builtin; refine app_own_h relemO rfl _ _ (by rfl) w (wz.alloc (.cells #[.string I,.string D] 126)) (wz.heap.size + 1) (by simp) _ LL.length _ (by rfl) (HO.out.alloc _) (HS.out.alloc _) #[.string I,.string D] 1 1 (by rfl) rfl (fun u hu => by simp at hu; rcases hu with rfl | rfl <;> rfl) (by unfold maxLen; omega) (by omega) ?_)
         intro v2 W2 ho2 hs2 hk2
         have HO2:=lH (own_r1 (I:=I) (D:=D) ho2)
         have HS2:=lH hs2
         clear ho2 hs2 hk2
         go_wp2_with fail
         go_roundw
         case rel => exact ⟨k + 1,A + q,by omega,by go_num,by go_num,hAq,hA4,_,HB,_,HLL2,HL2.out,HSZ2,HO2,HS2⟩
         case measure => simp [intOf]; omega
       · have t2:decide ((k:Int) < m - 1) = false:=decide_eq_false hlast
         have hkm1:k + 1 = m.toNat:=by omega
         by_cases hpb:I = PB
         · have t3:(!I.toList == [80,66]) = false:=by rw [<- PB_list]; exact str_eq_f hpb
           have HLL2:Hid (LL = if k + 1 = m.toNat then trimP (L ++ [(I,D)]) else L ++ [(I,D)]):=lH (by rw [if_pos hkm1,trim_snoc,if_pos hpb,hLLe])
           clear hst hok HST hTz hv hq hI hD hqs hlast hkm hLLe hSZ2 HLL HD hpb hkm1 hz9
           go_wp2_with fail
           refine c1.calls0 ?_
           intro wz hz
           replace HO:=lH (HO.out.since hz)
           replace HS:=lH (HS.out.step hz)
           clear hz
           go_wp2_with fail
           go_roundw
           case rel => exact ⟨k + 1,A + q,by omega,by go_num,by go_num,hAq,hA4,_,HB,LL,HLL2,by omega,HSZ,lH (HO.out.alloc _),lH (HS.out.alloc _)⟩
           case measure => simp [intOf]; omega
         · have t3:(!I.toList == [80,66]) = true:=by rw [<- PB_list]; exact str_ne_t hpb
           have HLL2:Hid (L ++ [(I,D)] = if k + 1 = m.toNat then trimP (L ++ [(I,D)]) else L ++ [(I,D)]):=lH (by rw [if_pos hkm1,trim_snoc,if_neg hpb])
           have hl2:(L ++ [(I,D)]).length <= k + 1:=by rw [List.length_append,<- hLLe]; show LL.length + 1 <= _; omega
           have HL2:=lH hl2
           rw [<- hLLe] at HB HLL2 HSZ2 HL2
           clear hst hok HST hTz hv hq hI hD hqs hlast hkm hLLe hSZ2 hl2 HLL HD hpb hkm1 hz9
           go_wp2_with fail
           refine c1.calls0 ?_
           intro wz hz
           replace HO:=lH (HO.out.since hz)
           replace HS:=lH (HS.out.step hz)
           clear hz
           go_wp2_with (at_builtin; refine app_own_h relemO rfl _ _ (by rfl) w (wz.alloc (.cells #[.string I,.string D] 126)) (wz.heap.size + 1) (by simp) _ LL.length _ (by rfl) (HO.out.alloc _) (HS.out.alloc _) #[.string I,.string D] 1 1 (by rfl) rfl (fun u hu => by simp at hu; rcases hu with rfl | rfl <;> rfl) (by unfold maxLen; omega) (by omega) ?_)
           intro v2 W2 ho2 hs2 hk2
           have HO2:=lH (own_r1 (I:=I) (D:=D) ho2)
           have HS2:=lH hs2
           clear ho2 hs2 hk2
           go_wp2_with fail
           go_roundw
           case rel => exact ⟨k + 1,A + q,by omega,by go_num,by go_num,hAq,hA4,_,HB,_,HLL2,HL2.out,HSZ2,HO2,HS2⟩
           case measure => simp [intOf]; omega
   · have t1:decide ((k:Int) < m) = false:=decide_eq_false hlt
     have hkm:k = m.toNat:=by omega
     have hLLe:LL = trimP L:=by rw [HLL.out,if_pos hkm]
     have i1:(0:Int) <= (A:Int):=by omega
     have i2:(A:Int) <= (s.size:Int):=by omega
     obtain ⟨P,hP⟩:∃ P,s.extract 0 A = P:=⟨_,rfl⟩
     have HUN:Hid (unpOk s m = if packOk LL = true /\ (cntP LL:Int) = m /\ packX LL = P then some (LL,A) else none):=lH (by
       unfold unpOk
       rw [<- hkm,HD.out,hLLe,<- hP])
     have HX:=lH HO.out.read
     have c3:=rpack_any LL (by omega) (fun p hp => by have:=HSZ.out p hp; omega)
     clear hkm hLLe HSZ hlt
     have hun:unpOk s m = if packOk LL = true /\ (cntP LL:Int) = m /\ packX LL = P then some (LL,A) else none:=HUN.out
     unfold packV at c3
     clear HO HD HUN HLL
     by_cases h5:packE LL = 0
     · by_cases h6:packN LL = m
       · by_cases h7:packX LL = P
         · have hok:=(packE_zero _).1 h5
           have h8:unpOk s m = some (LL,A):=by rw [hun,if_pos ⟨hok,by rw [<- packN_ok _ hok]; exact h6,h7⟩]
           obtain ⟨e1,e2,e3⟩:=unp_yes s _ _ _ h8
           have HF:=lH (show (L0 = LL /\ N0 = (A:Int) /\ E0 = 0) from ⟨HL.out.trans e1,HNN.out.trans e2,HE.out.trans e3⟩)
           rw [h5,h6,h7] at c3
           have t7:=str_eq_f (rfl:P = P)
           have t6:(m != m) = false:=bne_eq_false_iff_eq.2 rfl
           clear e1 e2 e3 h5 h6 h7 h8 hok hun
           go_wp2_with fail
           refine c3.calls0 HX.out ?_
           intro wq hq
           replace HX:=lH (HX.out.since hq)
           replace HS:=lH (HS.out.step hq)
           clear hq
           go_wp2_with fail
           go_ret3
           obtain ⟨rfl,rfl,rfl⟩:=HF.out
           exact ⟨_,rfl,HX.out,HS.out⟩
         · have HB:=lH (show unpOk s m = none by rw [hun,if_neg (fun h => h7 h.2.2)])
           rw [h5,h6] at c3
           have t7:=str_ne_t h7
           have t6:(m != m) = false:=bne_eq_false_iff_eq.2 rfl
           obtain ⟨X9,hX9⟩:∃ X9,packX LL = X9:=⟨_,rfl⟩
           rw [hX9] at c3 t7
           clear h5 h6 h7 hun hX9
           obtain ⟨e1,e2,e3⟩:=unp_no s m HB.out
           have HF:=lH (show (L0 = [] /\ N0 = 0 /\ E0 = 5) from ⟨HL.out.trans e1,HNN.out.trans e2,HE.out.trans e3⟩)
           clear e1 e2 e3
           go_wp2_with fail
           refine c3.calls0 HX.out ?_
           intro wq hq
           replace HX:=lH (HX.out.since hq)
           replace HS:=lH (HS.out.step hq)
           clear hq
           go_wp2_with fail
           go_ret3
           obtain ⟨rfl,rfl,rfl⟩:=HF.out
           exact ⟨_,rfl,OptsS.nil _,HS.out⟩
       · have HB:=lH (show unpOk s m = none by rw [hun,if_neg (fun h => h6 (by rw [packN_ok _ h.1]; exact h.2.1))])
         have t6:(packN LL != m) = true:=bne_iff_ne.2 h6
         rw [h5] at c3
         obtain ⟨X9,hX9⟩:∃ X9,packX LL = X9:=⟨_,rfl⟩
         obtain ⟨N9,hN9⟩:∃ N9,packN LL = N9:=⟨_,rfl⟩
         rw [hX9,hN9] at c3
         rw [hN9] at t6
         clear h5 h6 hun hX9 hN9
         obtain ⟨e1,e2,e3⟩:=unp_no s m HB.out
         have HF:=lH (show (L0 = [] /\ N0 = 0 /\ E0 = 5) from ⟨HL.out.trans e1,HNN.out.trans e2,HE.out.trans e3⟩)
         clear e1 e2 e3
         go_wp2_with fail
         refine c3.calls0 HX.out ?_
         intro wq hq
         replace HX:=lH (HX.out.since hq)
         replace HS:=lH (HS.out.step hq)
         clear hq
         go_wp2_with fail
         go_ret3
         obtain ⟨rfl,rfl,rfl⟩:=HF.out
         exact ⟨_,rfl,OptsS.nil _,HS.out⟩
     · have HB:=lH (show unpOk s m = none by rw [hun,if_neg (fun h => h5 ((packE_zero _).2 h.1))])
       have t5:(packE LL != 0) = true:=bne_iff_ne.2 h5
       obtain ⟨X9,hX9⟩:∃ X9,packX LL = X9:=⟨_,rfl⟩
       obtain ⟨N9,hN9⟩:∃ N9,packN LL = N9:=⟨_,rfl⟩
       obtain ⟨E9,hE9⟩:∃ E9,packE LL = E9:=⟨_,rfl⟩
       rw [hX9,hN9,hE9] at c3
       rw [hE9] at t5
       clear h5 hun hX9 hN9 hE9
       obtain ⟨e1,e2,e3⟩:=unp_no s m HB.out
       have HF:=lH (show (L0 = [] /\ N0 = 0 /\ E0 = 5) from ⟨HL.out.trans e1,HNN.out.trans e2,HE.out.trans e3⟩)
       clear e1 e2 e3
       go_wp2_with fail
       refine c3.calls0 HX.out ?_
       intro wq hq
       replace HX:=lH (HX.out.since hq)
       replace HS:=lH (HS.out.step hq)
       clear hq
       go_wp2_with fail
       go_ret3
       obtain ⟨rfl,rfl,rfl⟩:=HF.out
       exact ⟨_,rfl,OptsS.nil _,HS.out⟩
theorem runpack_any (s:ByteArray) (hs:s.size <= 9999) (m:Int) (hm:-9223372036854775808 <= m /\ m <= 9223372036854775807):MkO 78 #[.string s,.int .i64 m] (unpL s m) (unpN s m) (unpE s m) :=
 fun w => runp_main s (by omega) m hm hs _ _ _ rfl rfl rfl w
end Opt
namespace Opt
end Opt
end Go.Proofs.YtddlaafpianjbaaGreatDoor
