import Derived.Test.YtpanhhjkecebkaaGreatAp13
import Derived.BigQuiet
import Derived.Sort.Walk0
set_option maxRecDepth 100000
namespace Go.Proofs.YtpanhhjkecebkaaGreat
open Go.RowKit
namespace Setof
theorem less_ret (a b:ByteArray) (q:Bool) (hq:q = ltB a.data.toList b.data.toList):Ret 80 #[.string a,.string b] (.bool q):=by
 intro w
 have h:q = Op.bytesLess a.toList b.toList:=by rw [hq]; unfold ltB; rw [Go.Proofs.bytesLess_eq,toList_d,toList_d]
 have H:=lH h
 clear hq h
 go_enter Tryz.func80,Tryz.ntmps80
 go_wp2_with fail
 go_ret
 exact ⟨by rw [H.out]; rfl,rfl⟩
theorem gz_out (s:ByteArray) (k:Nat) (h:s.size <= k):gz s.data.toList k = 0:=by
 unfold gz
 simp [List.getD,List.getElem?_eq_none (show s.data.toList.length <= k from h)]
theorem byte0_ret (s:ByteArray) (k:Nat) (_hm:s.size <= 9223372036854775807) (hk:k <= 9223372036854775807) (x:Int) (hx:x = ((gz s.data.toList k).toNat:Int)):Ret 116 #[.string s,.int .i64 (k:Int)] (.int .i64 x):=by
 intro w
 by_cases h:k < s.size
 · have hx2:x = (s[k].toNat:Int):=by rw [hx]; unfold gz; simp [List.getD,List.getElem?_eq_getElem (show k < s.data.toList.length from h)]; rfl
   have i1:(0:Int) <= (k:Int):=by omega
   have i2:(k:Int) < (s.size:Int):=by omega
   have hb9:=s[k].toNat_lt
   clear hx
   subst hx2
   go_enter Tryz.func116,Tryz.ntmps116
   go_wp2_with fail
   go_ret
   exact ⟨rfl,rfl⟩
 · have hx2:x = 0:=by rw [hx]; rw [gz_out s k (by omega)]; rfl
   clear hx
   subst hx2
   go_enter Tryz.func116,Tryz.ntmps116
   go_wp2_with fail
   go_ret
   exact ⟨rfl,rfl⟩
set_option maxHeartbeats 2000000 in
theorem rless_ret (a b:ByteArray) (hm:a.size <= 140737488355328) (hm2:b.size <= 140737488355328) (q:Bool) (hq:q = ltB a.data.toList b.data.toList):Ret 81 #[.string a,.string b] (.bool q):=by
 intro w
 have HQ:=lH hq
 clear hq
 go_enter Tryz.func81,Tryz.ntmps81
 go_wp2_with fail
 go_loop [5] (fun i => ∃ k:Nat,k <= max a.size b.size /\ i = .int .i64 (k:Int) /\ Hid (∀ j,j < k -> gz a.data.toList j = gz b.data.toList j)) (fun i => a.size + b.size - (intOf i).toNat)
 case atStart => exact ⟨0,by omega,rfl,lH (fun j hj => by omega)⟩
 case round =>
   obtain ⟨k,hk,rfl,HA⟩:=hrel
   by_cases hlt:k < a.size ∨ k < b.size
   · have hcond:decide (k < a.size) = true ∨ (decide (k < a.size) = false /\ decide (k < b.size) = true):=by
       by_cases h:k < a.size
       · exact Or.inl (decide_eq_true h)
       · exact Or.inr ⟨decide_eq_false h,decide_eq_true (by omega)⟩
     obtain ⟨x,hx⟩:∃ x:Int,x = ((gz a.data.toList k).toNat:Int):=⟨_,rfl⟩
     obtain ⟨y,hy⟩:∃ y:Int,y = ((gz b.data.toList k).toNat:Int):=⟨_,rfl⟩
     have c1:=byte0_ret a k (by omega) (by omega) x hx
     have c2:=byte0_ret b k (by omega) (by omega) y hy
     by_cases hxy:x = y
     · have hg:gz a.data.toList k = gz b.data.toList k:=UInt8.toNat_inj.1 (by omega)
       have HA2:Hid (∀ j,j < k + 1 -> gz a.data.toList j = gz b.data.toList j):=lH (fun j hj => by
         by_cases e:j = k
         · rw [e]; exact hg
         · exact HA.out j (by omega))
       have t1:(x != y) = false:=bne_eq_false_iff_eq.2 hxy
       clear hg hx hy hxy
       rcases hcond with h | ⟨h,h'⟩
       all_goals
         go_wp2_with fail
         refine c1.calls ?_
         go_wp2_with fail
         refine c2.calls ?_
         go_wp2_with fail
         go_round
         case rel => exact ⟨k + 1,by omega,by go_num,HA2⟩
         case measure => simp [intOf]; omega
     · have hg:gz a.data.toList k ≠ gz b.data.toList k:=fun e => hxy (by rw [hx,hy,e])
       have hl:=less_at k a.data.toList b.data.toList HA.out hg
       have HR:Hid (q = decide (x < y)):=lH (by
         rw [HQ.out]; unfold ltB
         rw [decide_eq_decide]
         rw [hl,UInt8.lt_iff_toNat_lt,hx,hy]
         omega)
       have t1:(x != y) = true:=bne_iff_ne.2 hxy
       clear hg hx hy hxy hl
       rcases hcond with h | ⟨h,h'⟩
       all_goals
         go_wp2_with fail
         refine c1.calls ?_
         go_wp2_with fail
         refine c2.calls ?_
         go_wp2_with fail
         refine c1.calls ?_
         go_wp2_with fail
         refine c2.calls ?_
         go_wp2_with fail
         go_ret
         exact ⟨by rw [HR.out]; rfl,rfl⟩
   · have t1:decide (k < a.size) = false:=decide_eq_false (by omega)
     have t2:decide (k < b.size) = false:=decide_eq_false (by omega)
     have hz:∀ j,gz a.data.toList j = gz b.data.toList j:=fun j => by
       by_cases hj:j < k
       · exact HA.out j hj
       · rw [gz_out a j (by omega),gz_out b j (by omega)]
     have HR:Hid (q = decide (a.size < b.size)):=lH (by rw [HQ.out]; unfold ltB; rw [decide_eq_decide]; exact less_none _ _ hz)
     clear hz
     go_wp2_with fail
     go_ret
     refine ⟨?_,rfl⟩
     rw [HR.out]
     refine congrArg Ending.returned (congrArg Value.bool ?_)
     simp
def riN (l:List ByteArray):Nat -> Bool
 | 0 => true
 | 1 => true
 | k+2 => riN l (k + 1) && (match l[k]?,l[k+1]? with | some a,some b => ltB a.data.toList b.data.toList | _,_ => true)
theorem riN_step (l:List ByteArray) (k:Nat) (a b:ByteArray) (h1:l[k]? = some a) (h2:l[k+1]? = some b):riN l (k + 2) = (riN l (k + 1) && ltB a.data.toList b.data.toList):=by
 show (riN l (k + 1) && (match l[k]?,l[k+1]? with | some a,some b => ltB a.data.toList b.data.toList | _,_ => true)) = _
 rw [h1,h2]
theorem riN_le (l:List ByteArray) (k m:Nat) (hk:k <= m) (h:riN l m = true):riN l k = true:=by
 induction m with
 | zero => obtain rfl : k = 0 := by omega
           exact h
 | succ m ih =>
   by_cases e:k = m + 1
   · rw [e]; exact h
   · refine ih (by omega) ?_
     match m,h with
     | 0,_ => rfl
     | m+1,h =>
       have h2:(riN l (m + 1) && (match l[m]?,l[m+1]? with | some a,some b => ltB a.data.toList b.data.toList | _,_ => true)) = true:=h
       rw [Bool.and_eq_true] at h2
       exact h2.1
def risesB (l:List ByteArray):Bool:=riN l l.length
theorem rises_bad (l:List ByteArray) (k:Nat) (hk:k <= l.length) (h:riN l k = false):risesB l = false:=by
 cases h2:risesB l with
 | false => rfl
 | true => rw [riN_le l k _ hk h2] at h; cases h
def RdS (f:Nat) (l:List ByteArray) (args:Value -> Array Value) (v:Value):Prop:=∀ w x,StrsS w x l -> Calls Tryz.prog f (args x) w fun e w' => e = .returned v /\ Below w.heap.size w w'
theorem RdS.calls0 {f:Nat} {l:List ByteArray} {args:Value -> Array Value} {v x:Value} (h:RdS f l args v) {w:World} (hx:StrsS w x l) {R:Ending -> World -> Prop} (k:∀ w',Since w w' -> R (.returned v) w'):Calls Tryz.prog f (args x) w R :=
 (h w x hx).mono fun _ _ ⟨he,hb⟩ => by subst he; exact k _ hb
theorem belowN (w:World) (q:Nat):Below w.heap.size w (w.drewN q):=⟨rfl,rfl,rfl,Nat.le_refl _,fun _ _ => rfl⟩
theorem strs_cells {w:World} {v:Value} {l:List ByteArray} (h:StrsS w v l) (hn:0 < l.length) :
   ∃ b o c,v = .slice (some ⟨b,o,none⟩) l.length c /\ l.length <= c /\ c <= maxLen /\ b < w.heap.size /\ ∀ i s,l[i]? = some s -> w.cell? ⟨b,o + i,none⟩ = some (.string s):=by
 obtain ⟨b,o,c,hv,h1,h2,h3,h4⟩:=SlR.form h hn
 exact ⟨b,o,c,hv,h1,h2,h3,fun i s hs => h4 i _ (by rw [List.getElem?_map,hs]; rfl)⟩
theorem rises_nil:RdS 44 [] (fun x => #[x]) (.bool true):=by
 intro w x hx
 obtain ⟨A,c,rfl,_⟩:=SlR.empty hx rfl
 clear hx
 go_enter Tryz.func44,Tryz.ntmps44
 go_wp2_with fail
 go_loop [3] (fun i => i = .int .i64 1) (fun i => 1 - (intOf i).toNat)
 case atStart => rfl
 case round =>
   subst hrel
   go_wp2_with fail
   go_ret
   exact ⟨rfl,Since.refl w⟩
set_option maxHeartbeats 2000000 in
theorem rises_some (l:List ByteArray) (h0:0 < l.length) (q:Bool) (hq:q = risesB l) (hL:∀ a b:ByteArray,a ∈ l -> b ∈ l -> Ret 80 #[.string a,.string b] (.bool (ltB a.data.toList b.data.toList))):RdS 44 l (fun x => #[x]) (.bool q):=by
 intro w x hx
 have hle:=SlR.le hx
 obtain ⟨b,o,c,rfl,h1,h2,h3,h4⟩:=strs_cells hx h0
 obtain ⟨n,hn⟩:∃ n,n = l.length:=⟨_,rfl⟩
 rw [<- hn] at h0 h1 hle ⊢
 have HC:=lH h4
 have HN:=lH hn
 have HQ:=lH hq
 have HL:=lH hL
 clear h4 hx hn hq hL
 go_enter Tryz.func44,Tryz.ntmps44
 go_wp2_with fail
 go_loopw [3] (fun i wr => ∃ j:Nat,j + 1 <= n /\ i = .int .i64 ((j:Int) + 1) /\ Hid (riN l (j + 1) = true) /\ Hid (Since w wr)) (fun i _ => n - (intOf i).toNat)
 case atStart => exact ⟨0,by omega,rfl,lH rfl,lH (Since.refl w)⟩
 case round =>
   obtain ⟨j,hj,rfl,HA,HS⟩:=hrel
   by_cases hlt:j + 1 < n
   · obtain ⟨s,hs⟩:∃ s,l[j]? = some s:=⟨l[j]'(by rw [<- HN.out]; omega),List.getElem?_eq_getElem _⟩
     obtain ⟨t,ht⟩:∃ t,l[j+1]? = some t:=⟨l[j+1]'(by rw [<- HN.out]; omega),List.getElem?_eq_getElem _⟩
     have m0:=(Below.cell HS.out (p:=⟨b,o + j,none⟩) h3).trans (HC.out j s hs)
     have m1:=(Below.cell HS.out (p:=⟨b,o + (j + 1),none⟩) h3).trans (HC.out (j + 1) t ht)
     have HST:=lH (riN_step l j s t hs ht)
     have c1:=HL.out s t (List.mem_of_getElem? hs) (List.mem_of_getElem? ht)
     have i1:(0:Int) <= (j:Int):=by omega
     have i2:(j:Int) < (n:Int):=by omega
     have i3:(0:Int) <= (j:Int) + 1:=by omega
     have i4:(j:Int) + 1 < (n:Int):=by omega
     have e1:IntKind.i64.wrap ((j:Int) + 1 - 1) = (j:Int):=by rw [IntWalk.i64_in _ (by omega)]; omega
     have e2:((j:Int) + 1).toNat = j + 1:=by omega
     cases hlb:ltB s.data.toList t.data.toList with
     | false =>
       rw [hlb] at c1
       have hqf:q = false:=by rw [HQ.out]; exact rises_bad l (j + 2) (by have:=HN.out; omega) (by rw [HST.out,hlb,Bool.and_false])
       clear hs ht hlb
       subst hqf
       go_wp2_with fail
       go_quiet ((go_at_call 80; with_reducible exact Calls.quiet_of_same (retStill c1 _)))
       go_wp2_with fail
       go_ret
       exact ⟨rfl,HS.out.step (belowN _ _)⟩
     | true =>
       rw [hlb] at c1
       have HA2:Hid (riN l (j + 1 + 1) = true):=lH (by show riN l (j + 2) = true; rw [HST.out,hlb,HA.out]; rfl)
       clear hs ht hlb
       go_wp2_with fail
       go_quiet ((go_at_call 80; with_reducible exact Calls.quiet_of_same (retStill c1 _)))
       go_wp2_with fail
       go_roundw
       case rel => exact ⟨j + 1,by omega,by go_num,HA2,lH (HS.out.step (belowN _ _))⟩
       case measure => simp [intOf]; omega
   · have hqt:q = true:=by rw [HQ.out]; unfold risesB; rw [<- HN.out]; have h9:=HA.out; rw [show j + 1 = n by omega] at h9; exact h9
     subst hqt
     go_wp2_with fail
     go_ret
     exact ⟨rfl,HS.out⟩
theorem rrises_nil:RdS 49 [] (fun x => #[x]) (.bool true):=by
 intro w x hx
 obtain ⟨A,c,rfl,_⟩:=SlR.empty hx rfl
 clear hx
 go_enter Tryz.func49,Tryz.ntmps49
 go_wp2_with fail
 go_loop [3] (fun i => i = .int .i64 1) (fun i => 1 - (intOf i).toNat)
 case atStart => rfl
 case round =>
   subst hrel
   go_wp2_with fail
   go_ret
   exact ⟨rfl,Since.refl w⟩
set_option maxHeartbeats 2000000 in
theorem rrises_some (l:List ByteArray) (h0:0 < l.length) (q:Bool) (hq:q = risesB l) (hL:∀ a b:ByteArray,a ∈ l -> b ∈ l -> Ret 81 #[.string a,.string b] (.bool (ltB a.data.toList b.data.toList))):RdS 49 l (fun x => #[x]) (.bool q):=by
 intro w x hx
 have hle:=SlR.le hx
 obtain ⟨b,o,c,rfl,h1,h2,h3,h4⟩:=strs_cells hx h0
 obtain ⟨n,hn⟩:∃ n,n = l.length:=⟨_,rfl⟩
 rw [<- hn] at h0 h1 hle ⊢
 have HC:=lH h4
 have HN:=lH hn
 have HQ:=lH hq
 have HL:=lH hL
 clear h4 hx hn hq hL
 go_enter Tryz.func49,Tryz.ntmps49
 go_wp2_with fail
 go_loopw [3] (fun i wr => ∃ j:Nat,j + 1 <= n /\ i = .int .i64 ((j:Int) + 1) /\ Hid (riN l (j + 1) = true) /\ Hid (Since w wr)) (fun i _ => n - (intOf i).toNat)
 case atStart => exact ⟨0,by omega,rfl,lH rfl,lH (Since.refl w)⟩
 case round =>
   obtain ⟨j,hj,rfl,HA,HS⟩:=hrel
   by_cases hlt:j + 1 < n
   · obtain ⟨s,hs⟩:∃ s,l[j]? = some s:=⟨l[j]'(by rw [<- HN.out]; omega),List.getElem?_eq_getElem _⟩
     obtain ⟨t,ht⟩:∃ t,l[j+1]? = some t:=⟨l[j+1]'(by rw [<- HN.out]; omega),List.getElem?_eq_getElem _⟩
     have m0:=(Below.cell HS.out (p:=⟨b,o + j,none⟩) h3).trans (HC.out j s hs)
     have m1:=(Below.cell HS.out (p:=⟨b,o + (j + 1),none⟩) h3).trans (HC.out (j + 1) t ht)
     have HST:=lH (riN_step l j s t hs ht)
     have c1:=HL.out s t (List.mem_of_getElem? hs) (List.mem_of_getElem? ht)
     have i1:(0:Int) <= (j:Int):=by omega
     have i2:(j:Int) < (n:Int):=by omega
     have i3:(0:Int) <= (j:Int) + 1:=by omega
     have i4:(j:Int) + 1 < (n:Int):=by omega
     have e1:IntKind.i64.wrap ((j:Int) + 1 - 1) = (j:Int):=by rw [IntWalk.i64_in _ (by omega)]; omega
     have e2:((j:Int) + 1).toNat = j + 1:=by omega
     cases hlb:ltB s.data.toList t.data.toList with
     | false =>
       rw [hlb] at c1
       have hqf:q = false:=by rw [HQ.out]; exact rises_bad l (j + 2) (by have:=HN.out; omega) (by rw [HST.out,hlb,Bool.and_false])
       clear hs ht hlb
       subst hqf
       go_wp2_with fail
       go_quiet ((go_at_call 81; with_reducible exact Calls.quiet_of_same (retStill c1 _)))
       go_wp2_with fail
       go_ret
       exact ⟨rfl,HS.out.step (belowN _ _)⟩
     | true =>
       rw [hlb] at c1
       have HA2:Hid (riN l (j + 1 + 1) = true):=lH (by show riN l (j + 2) = true; rw [HST.out,hlb,HA.out]; rfl)
       clear hs ht hlb
       go_wp2_with fail
       go_quiet ((go_at_call 81; with_reducible exact Calls.quiet_of_same (retStill c1 _)))
       go_wp2_with fail
       go_roundw
       case rel => exact ⟨j + 1,by omega,by go_num,HA2,lH (HS.out.step (belowN _ _))⟩
       case measure => simp [intOf]; omega
   · have hqt:q = true:=by rw [HQ.out]; unfold risesB; rw [<- HN.out]; have h9:=HA.out; rw [show j + 1 = n by omega] at h9; exact h9
     subst hqt
     go_wp2_with fail
     go_ret
     exact ⟨rfl,HS.out⟩
theorem rises_rd (l:List ByteArray):RdS 44 l (fun x => #[x]) (.bool (risesB l)):=by
 by_cases h:l.length = 0
 · obtain rfl:=List.length_eq_zero_iff.1 h; exact rises_nil
 · exact rises_some l (by omega) _ rfl (fun a b _ _ => less_ret a b _ rfl)
theorem rrises_rd (l:List ByteArray) (hl:∀ s ∈ l,s.size <= 140737488355328):RdS 49 l (fun x => #[x]) (.bool (risesB l)):=by
 by_cases h:l.length = 0
 · obtain rfl:=List.length_eq_zero_iff.1 h; exact rrises_nil
 · exact rrises_some l (by omega) _ rfl (fun a b ha hb => rless_ret a b (hl a ha) (hl b hb) _ rfl)
end Setof
namespace Setof
end Setof
end Go.Proofs.YtpanhhjkecebkaaGreat
