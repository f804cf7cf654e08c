import Derived.Test.YtcdjfmlanicjlaaGreatDoorSl13
import Derived.BigQuiet
set_option maxRecDepth 100000
namespace Go.Proofs.YtcdjfmlanicjlaaGreatDoor
open Go.RowKit Go.Deep
namespace Att
abbrev A2:=Int × ByteArray
def ac (p:A2):List Value:=[.int .i64 p.1,.string p.2]
theorem ac_len (p:A2):(ac p).length = 2:=rfl
def AttsS (w:World) (v:Value) (l:List A2):Prop:=SlR w 2 v l.length (l.flatMap ac)
theorem AttsS.since {w w':World} {v:Value} {l:List A2} (h:AttsS w v l) (hs:Since w w'):AttsS w' v l:=SlR.since h hs
theorem AttsS.nil (w:World):AttsS w (.slice none 0 0) []:=SlR.nil w 2
theorem AttsS.own {w:World} {base:Nat} {e:TypeId} {v:Value} {l:List A2} (h:w.ownsRow base e 2 v l.length (l.flatMap ac)):AttsS w v l:=SlR.own h
theorem AttsS.empty {w:World} {v:Value} {l:List A2} (h:AttsS w v l) (hn:l.length = 0):∃ A c,v = .slice A 0 c /\ c <= maxLen:=SlR.empty h hn
theorem AttsS.slice {w:World} {v:Value} {l:List A2} (h:AttsS w v l):∃ A c,v = .slice A l.length c /\ l.length <= c /\ c <= maxLen:=SlR.slice h
theorem AttsS.form {w:World} {v:Value} {l:List A2} (h:AttsS w v l) (hn:0 < l.length) :
   ∃ b o c,v = .slice (some ⟨b,o,none⟩) l.length c /\ l.length <= c /\ c <= maxLen /\ b < w.heap.size /\ ∀ i p,l[i]? = some p -> w.cell? ⟨b,o + i * 2,none⟩ = some (.int .i64 p.1) /\ w.cell? ⟨b,o + i * 2 + 1,none⟩ = some (.string p.2):=by
 obtain ⟨b,o,c,hv,h1,h2,h3,h4⟩:=SlR.form h hn
 refine ⟨b,o,c,hv,h1,h2,h3,fun i p hp => ?_⟩
 have e0:=flatMap_get ac 2 ac_len l i p hp 0 (by decide)
 have e1:=flatMap_get ac 2 ac_len l i p hp 1 (by decide)
 exact ⟨h4 (i * 2) _ e0,by rw [Nat.add_assoc]; exact h4 (i * 2 + 1) _ e1⟩
def RdA (f:Nat) (l:List A2) (args:Value -> Array Value) (v:Value):Prop:=∀ w x,AttsS w x l -> Calls Tryz.prog f (args x) w fun e w' => e = .returned v /\ Below w.heap.size w w'
theorem RdA.calls0 {f:Nat} {l:List A2} {args:Value -> Array Value} {v x:Value} (h:RdA f l args v) {w:World} (hx:AttsS w x l) {R:Ending -> World -> Prop} (k:∀ w',Since w w' -> R (.returned v) w'):Calls Tryz.prog f (args x) w R :=
 (h w x hx).mono fun _ _ ⟨he,hb⟩ => by subst he; exact k _ hb
theorem take_snoc {α:Type} (l:List α) (k:Nat) (p:α) (h:l[k]? = some p):l.take (k + 1) = l.take k ++ [p]:=by
 obtain ⟨h1,h2⟩:=List.getElem?_eq_some_iff.1 h
 rw [List.take_succ_eq_append_getElem h1,h2]
theorem belowN (w:World) (q:Nat):Below w.heap.size w (w.drewN q):=⟨rfl,rfl,rfl,Nat.le_refl _,fun _ _ => rfl⟩
theorem row_since {w w':World} {base:Nat} {E:TypeId} {size:Nat} {v:Value} {n:Nat} {xs:List Value} (h:w.ownsRow base E size v n xs) (hs:Since w w'):w'.ownsRow base E size v n xs:=by
 obtain ⟨h1,h2⟩:=h
 refine ⟨h1, ?_⟩
 rcases h2 with h2 | ⟨g,cap,cur,rfl,hb,hg,r⟩
 · exact Or.inl h2
 · exact Or.inr ⟨g,cap,cur,rfl,hb,(Below.block hs g (Array.getElem?_eq_some_iff.1 hg).1).trans hg,r⟩
def prevA (l:List A2):Nat -> Int
 | 0 => 0
 | k+1 => match l[k]? with | some p => p.1 | none => 0
def stepA (l:List A2) (k:Nat) (p:A2):Bool:=decide (prevA l k < p.1) && decide (p.1 <= 65535) && decide (p.2.size <= 255)
def attN (l:List A2):Nat -> Bool
 | 0 => true
 | k+1 => attN l k && (match l[k]? with | some p => stepA l k p | none => true)
def attOk (l:List A2):Bool:=decide (l.length <= 32) && attN l l.length
def attE (l:List A2):Int:=if attOk l then 0 else 11
theorem attN_step (l:List A2) (k:Nat) (p:A2) (h:l[k]? = some p):attN l (k + 1) = (attN l k && stepA l k p):=by
 show (attN l k && (match l[k]? with | some p => stepA l k p | none => true)) = _
 rw [h]
theorem attN_le (l:List A2) (k m:Nat) (hk:k <= m) (h:attN l m = true):attN l k = true:=by
 induction m with
 | zero => obtain rfl : k = 0 := by omega
           exact h
 | succ m ih =>
   by_cases e:k = m + 1
   · rw [e]; exact h
   · refine ih (by omega) ?_
     have h2:(attN l m && (match l[m]? with | some p => stepA l m p | none => true)) = true:=h
     rw [Bool.and_eq_true] at h2
     exact h2.1
theorem prevA_at (l:List A2) (k:Nat) (t:Int) (s:ByteArray) (h:l[k]? = some (t,s)):prevA l (k + 1) = t:=by
 show (match l[k]? with | some p => p.1 | none => 0) = t
 rw [h]
theorem attE_bad (l:List A2) (k:Nat) (hk:k <= l.length) (h:attN l k = false):attE l = 11:=by
 unfold attE attOk
 have:attN l l.length = false:=by
   cases h2:attN l l.length with
   | false => rfl
   | true => rw [attN_le l k _ hk h2] at h; cases h
 rw [this,Bool.and_false]; rfl
theorem attE_long (l:List A2) (h:32 < l.length):attE l = 11:=by
 unfold attE attOk
 rw [decide_eq_false (by omega)]; rfl
theorem attE_ok (l:List A2) (h:l.length <= 32) (h2:attN l l.length = true):attE l = 0:=by
 unfold attE attOk
 rw [decide_eq_true h,h2]; rfl
theorem attN_all (l:List A2) (k:Nat) (h:attN l k = true):0 <= prevA l k /\ ∀ i p,i < k -> l[i]? = some p -> 1 <= p.1 /\ p.1 <= 65535 /\ p.2.size <= 255:=by
 induction k with
 | zero => exact ⟨Int.le_refl _,fun i p hi => by omega⟩
 | succ k ih =>
   obtain ⟨g1,g2⟩:=ih (attN_le l k _ (by omega) h)
   have key:∀ p,l[k]? = some p -> 1 <= p.1 /\ p.1 <= 65535 /\ p.2.size <= 255:=by
     intro p hp
     rw [attN_step l k p hp,Bool.and_eq_true] at h
     have h2:=h.2
     unfold stepA at h2
     simp only [Bool.and_eq_true,decide_eq_true_eq] at h2
     omega
   refine ⟨?_,fun i p hi hp => ?_⟩
   · show 0 <= (match l[k]? with | some p => p.1 | none => 0)
     cases hp:l[k]? with
     | none => exact Int.le_refl _
     | some p => have:=(key p hp).1; show 0 <= p.1; omega
   · by_cases e:i = k
     · subst e; exact key p hp
     · exact g2 i p (by omega) hp
theorem attE_zero (l:List A2):attE l = 0 ↔ attOk l = true:=by
 unfold attE
 cases attOk l <;> simp
theorem check_long (l:List A2) (h:32 < l.length):RdA 84 l (fun x => #[x]) (.int .i64 11):=by
 intro w x hx
 obtain ⟨A,c,rfl,_⟩:=hx.slice
 obtain ⟨k,hk⟩:∃ k,k = l.length:=⟨_,rfl⟩
 rw [<- hk] at h ⊢
 have t1:decide ((32:Int) < (k:Int)) = true:=decide_eq_true (by omega)
 clear hx hk
 go_enter Tryz.func84,Tryz.ntmps84
 go_wp2_with fail
 go_ret
 exact ⟨rfl,Since.refl w⟩
theorem check_nil:RdA 84 [] (fun x => #[x]) (.int .i64 0):=by
 intro w x hx
 obtain ⟨A,c,rfl,_⟩:=hx.empty rfl
 clear hx
 go_enter Tryz.func84,Tryz.ntmps84
 go_wp2_with fail
 go_loop [3,5,11] (fun _ _ i => i = .int .i64 0) (fun _ _ i => 0 - (intOf i).toNat)
 case atStart => rfl
 case round =>
   subst hrel
   go_wp2_with fail
   go_ret
   exact ⟨rfl,Since.refl w⟩
set_option maxHeartbeats 4000000 in
theorem check_some (l:List A2) (h0:0 < l.length) (h32:l.length <= 32) (E:Int) (hE:E = attE l):RdA 84 l (fun x => #[x]) (.int .i64 E):=by
 intro w x hx
 obtain ⟨b,o,c,rfl,h1,h2,h3,h4⟩:=hx.form h0
 obtain ⟨n,hn⟩:∃ n,n = l.length:=⟨_,rfl⟩
 rw [<- hn] at h0 h32 h1 ⊢
 have t1:decide ((32:Int) < (n:Int)) = false:=decide_eq_false (by omega)
 have HC:=lH h4
 have HN:=lH hn
 have HE:=lH hE
 clear h4 hx hn hE
 go_enter Tryz.func84,Tryz.ntmps84
 go_wp2_with fail
 go_loopw [3,5,11] (fun pv _ i wr => ∃ (k:Nat) (P:Int),k <= n /\ i = .int .i64 (k:Int) /\ pv = .int .i64 P /\ Hid (prevA l k = P) /\ Hid (attN l k = true) /\ Hid (Since w wr)) (fun _ _ i _ => n - (intOf i).toNat)
 case atStart => exact ⟨0,0,by omega,rfl,rfl,lH rfl,lH rfl,lH (Since.refl w)⟩
 case round =>
   obtain ⟨k,P,hk,rfl,rfl,HP,HA,HS⟩:=hrel
   by_cases hlt:k < n
   · obtain ⟨⟨t,s⟩,hs⟩:∃ s,l[k]? = some s:=⟨l[k]'(by rw [<- HN.out]; exact hlt),List.getElem?_eq_getElem _⟩
     obtain ⟨m0,m1⟩:=HC.out k _ hs
     replace m0:wr.cell? ⟨b,o + k * 2,none⟩ = some (.int .i64 t):=(Below.cell HS.out (p:=⟨b,o + k * 2,none⟩) h3).trans m0
     replace m1:wr.cell? ⟨b,o + k * 2 + 1,none⟩ = some (.string s):=(Below.cell HS.out (p:=⟨b,o + k * 2 + 1,none⟩) h3).trans m1
     have HST:=lH (attN_step l k _ hs)
     have HP2:Hid (prevA l (k + 1) = t):=lH (prevA_at l k t s hs)
     clear hs
     by_cases c1:t <= P
     · have t2:decide (t <= P) = true:=decide_eq_true c1
       have hE:E = 11:=by rw [HE.out]; exact attE_bad l (k + 1) (by rw [<- HN.out]; omega) (by rw [HST.out]; unfold stepA; rw [HP.out]; simp; omega)
       subst hE
       go_wp2_with fail
       go_ret
       exact ⟨rfl,HS.out.alloc _⟩
     · have t2:decide (t <= P) = false:=decide_eq_false c1
       by_cases c2:65535 < t
       · have t3:decide (65535 < t) = true:=decide_eq_true c2
         have hE:E = 11:=by rw [HE.out]; exact attE_bad l (k + 1) (by rw [<- HN.out]; omega) (by rw [HST.out]; unfold stepA; rw [HP.out]; simp; omega)
         subst hE
         go_wp2_with fail
         go_ret
         exact ⟨rfl,HS.out.alloc _⟩
       · have t3:decide (65535 < t) = false:=decide_eq_false c2
         by_cases c3:255 < s.size
         · have t4:decide ((255:Int) < (s.size:Int)) = true:=decide_eq_true (by omega)
           have hE:E = 11:=by rw [HE.out]; exact attE_bad l (k + 1) (by rw [<- HN.out]; omega) (by rw [HST.out]; unfold stepA; rw [HP.out]; simp; omega)
           subst hE
           go_wp2_with fail
           go_ret
           exact ⟨rfl,HS.out.alloc _⟩
         · have t4:decide ((255:Int) < (s.size:Int)) = false:=decide_eq_false (by omega)
           have HA2:Hid (attN l (k + 1) = true):=lH (by rw [HST.out,HA.out]; unfold stepA; rw [HP.out]; simp; omega)
           go_wp2_with fail
           go_roundw
           case rel => exact ⟨k + 1,t,by omega,by go_num,rfl,HP2,HA2,lH (HS.out.alloc _)⟩
           case measure => simp [intOf]; omega
   · obtain rfl:n = k:=by omega
     have hE:E = 0:=by rw [HE.out]; exact attE_ok l (by rw [<- HN.out]; exact h32) (by rw [<- HN.out]; exact HA.out)
     subst hE
     go_wp2_with fail
     go_ret
     exact ⟨rfl,HS.out⟩
theorem check_rd (l:List A2) (E:Int) (hE:E = attE l):RdA 84 l (fun x => #[x]) (.int .i64 E):=by
 by_cases h:32 < l.length
 · rw [hE,attE_long l h]; exact check_long l h
 · by_cases h0:l.length = 0
   · obtain rfl:=List.length_eq_zero_iff.1 h0
     subst hE
     exact check_nil
   · exact check_some l (by omega) (by omega) E hE
theorem rcheck_long (l:List A2) (h:32 < l.length):RdA 77 l (fun x => #[x]) (.int .i64 11):=by
 intro w x hx
 obtain ⟨A,c,rfl,_⟩:=hx.slice
 obtain ⟨k,hk⟩:∃ k,k = l.length:=⟨_,rfl⟩
 rw [<- hk] at h ⊢
 have t1:decide ((32:Int) < (k:Int)) = true:=decide_eq_true (by omega)
 clear hx hk
 go_enter Tryz.func77,Tryz.ntmps77
 go_wp2_with fail
 go_ret
 exact ⟨rfl,Since.refl w⟩
theorem rcheck_nil:RdA 77 [] (fun x => #[x]) (.int .i64 0):=by
 intro w x hx
 obtain ⟨A,c,rfl,_⟩:=hx.empty rfl
 clear hx
 go_enter Tryz.func77,Tryz.ntmps77
 go_wp2_with fail
 go_loop [3] (fun i => i = .int .i64 0) (fun i => 0 - (intOf i).toNat)
 case atStart => rfl
 case round =>
   subst hrel
   go_wp2_with fail
   go_ret
   exact ⟨rfl,Since.refl w⟩
set_option maxHeartbeats 8000000 in
theorem rcheck_some (l:List A2) (h0:0 < l.length) (h32:l.length <= 32) (E:Int) (hE:E = attE l):RdA 77 l (fun x => #[x]) (.int .i64 E):=by
 intro w x hx
 obtain ⟨b,o,c,rfl,h1,h2,h3,h4⟩:=hx.form h0
 obtain ⟨n,hn⟩:∃ n,n = l.length:=⟨_,rfl⟩
 rw [<- hn] at h0 h32 h1 ⊢
 have t1:decide ((32:Int) < (n:Int)) = false:=decide_eq_false (by omega)
 have HC:=lH h4
 have HN:=lH hn
 have HE:=lH hE
 clear h4 hx hn hE
 go_enter Tryz.func77,Tryz.ntmps77
 go_wp2_with fail
 go_loopw [3] (fun i wr => ∃ (k:Nat),k <= n /\ i = .int .i64 (k:Int) /\ Hid (attN l k = true) /\ Hid (Since w wr)) (fun i _ => n - (intOf i).toNat)
 case atStart => exact ⟨0,by omega,rfl,lH rfl,lH (Since.refl w)⟩
 case round =>
   obtain ⟨k,hk,rfl,HA,HS⟩:=hrel
   by_cases hlt:k < n
   · obtain ⟨⟨t,s⟩,hs⟩:∃ s,l[k]? = some s:=⟨l[k]'(by rw [<- HN.out]; exact hlt),List.getElem?_eq_getElem _⟩
     obtain ⟨m0,m1⟩:=HC.out k _ hs
     replace m0:wr.cell? ⟨b,o + k * 2,none⟩ = some (.int .i64 t):=(Below.cell HS.out (p:=⟨b,o + k * 2,none⟩) h3).trans m0
     replace m1:wr.cell? ⟨b,o + k * 2 + 1,none⟩ = some (.string s):=(Below.cell HS.out (p:=⟨b,o + k * 2 + 1,none⟩) h3).trans m1
     have HST:=lH (attN_step l k _ hs)
     have i1:(0:Int) <= (k:Int):=by omega
     have i2:(k:Int) < (n:Int):=by omega
     by_cases c1:t < 1
     · have t2:decide (t < 1) = true:=decide_eq_true c1
       obtain ⟨P,hP⟩:∃ P,prevA l k = P:=⟨_,rfl⟩
       have hP0:=(attN_all l k HA.out).1
       rw [hP] at hP0
       have HP:=lH hP
       clear hs hP
       have hE:E = 11:=by rw [HE.out]; exact attE_bad l (k + 1) (by rw [<- HN.out]; omega) (by rw [HST.out]; unfold stepA; rw [HP.out]; simp; omega)
       subst hE
       go_wp2_with fail
       go_quiet (fail)
       go_wp2_with fail
       go_ret
       exact ⟨rfl,HS.out.step (belowN _ _)⟩
     · have t2:decide (t < 1) = false:=decide_eq_false c1
       by_cases c2:65535 < t
       · have t3:decide (65535 < t) = true:=decide_eq_true c2
         obtain ⟨P,hP⟩:∃ P,prevA l k = P:=⟨_,rfl⟩
         have HP:=lH hP
         clear hs hP
         have hE:E = 11:=by rw [HE.out]; exact attE_bad l (k + 1) (by rw [<- HN.out]; omega) (by rw [HST.out]; unfold stepA; rw [HP.out]; simp; omega)
         subst hE
         go_wp2_with fail
         go_quiet (fail)
         go_wp2_with fail
         go_ret
         exact ⟨rfl,HS.out.step (belowN _ _)⟩
       · have t3:decide (65535 < t) = false:=decide_eq_false c2
         by_cases c3:255 < s.size
         · have t4:decide ((255:Int) < (s.size:Int)) = true:=decide_eq_true (by omega)
           obtain ⟨P,hP⟩:∃ P,prevA l k = P:=⟨_,rfl⟩
           have HP:=lH hP
           clear hs hP
           have hE:E = 11:=by rw [HE.out]; exact attE_bad l (k + 1) (by rw [<- HN.out]; omega) (by rw [HST.out]; unfold stepA; rw [HP.out]; simp; omega)
           subst hE
           go_wp2_with fail
           go_quiet (fail)
           go_wp2_with fail
           go_ret
           exact ⟨rfl,HS.out.step (belowN _ _)⟩
         · have t4:decide ((255:Int) < (s.size:Int)) = false:=decide_eq_false (by omega)
           by_cases c4:k = 0
           · have t5:decide (0 < k) = false:=decide_eq_false (by omega)
             have HP:Hid (prevA l k = 0):=lH (by rw [c4]; rfl)
             clear hs c4
             have HA2:Hid (attN l (k + 1) = true):=lH (by rw [HST.out,HA.out]; unfold stepA; rw [HP.out]; simp; omega)
             go_wp2_with fail
             go_quiet (fail)
             go_wp2_with fail
             go_roundw
             case rel => exact ⟨k + 1,by omega,by go_num,HA2,lH (HS.out.step (belowN _ _))⟩
             case measure => simp [intOf]; omega
           · have t5:decide (0 < k) = true:=decide_eq_true (by omega)
             obtain ⟨j,hj⟩:∃ j,k = j + 1:=⟨k - 1,by omega⟩
             obtain ⟨⟨u,v⟩,hp⟩:∃ s,l[j]? = some s:=⟨l[j]'(by rw [<- HN.out]; omega),List.getElem?_eq_getElem _⟩
             obtain ⟨m2,_⟩:=HC.out j _ hp
             replace m2:wr.cell? ⟨b,o + j * 2,none⟩ = some (.int .i64 u):=(Below.cell HS.out (p:=⟨b,o + j * 2,none⟩) h3).trans m2
             have e1:IntKind.i64.wrap ((k:Int) - 1) = (j:Int):=by rw [IntWalk.i64_in _ (by omega)]; omega
             have i3:(0:Int) <= (j:Int):=by omega
             have i4:(j:Int) < (n:Int):=by omega
             have HP:Hid (prevA l k = u):=lH (by rw [hj]; exact prevA_at l j u v hp)
             have HJ:=lH hj
             clear hs hp hj c4
             by_cases c5:t <= u
             · have t6:decide (t <= u) = true:=decide_eq_true c5
               have hE:E = 11:=by rw [HE.out]; exact attE_bad l (k + 1) (by rw [<- HN.out]; omega) (by rw [HST.out]; unfold stepA; rw [HP.out]; simp; omega)
               subst hE
               go_wp2_with fail
               go_quiet (fail)
               go_wp2_with fail
               go_ret
               exact ⟨rfl,HS.out.step (belowN _ _)⟩
             · have t6:decide (t <= u) = false:=decide_eq_false c5
               have HA2:Hid (attN l (k + 1) = true):=lH (by rw [HST.out,HA.out]; unfold stepA; rw [HP.out]; simp; omega)
               go_wp2_with fail
               go_quiet (fail)
               go_wp2_with fail
               go_roundw
               case rel => exact ⟨k + 1,by omega,by go_num,HA2,lH (HS.out.step (belowN _ _))⟩
               case measure => simp [intOf]; omega
   · obtain rfl:n = k:=by omega
     have hE:E = 0:=by rw [HE.out]; exact attE_ok l (by rw [<- HN.out]; exact h32) (by rw [<- HN.out]; exact HA.out)
     subst hE
     go_wp2_with fail
     go_ret
     exact ⟨rfl,HS.out⟩
theorem rcheck_rd (l:List A2) (E:Int) (hE:E = attE l):RdA 77 l (fun x => #[x]) (.int .i64 E):=by
 by_cases h:32 < l.length
 · rw [hE,attE_long l h]; exact rcheck_long l h
 · by_cases h0:l.length = 0
   · obtain rfl:=List.length_eq_zero_iff.1 h0
     subst hE
     exact rcheck_nil
   · exact rcheck_some l (by omega) (by omega) E hE
end Att
end Go.Proofs.YtcdjfmlanicjlaaGreatDoor
namespace Go.Proofs.YtcdjfmlanicjlaaGreatDoor
open Go.RowKit
namespace Rw
def Apart (a b:Value):Prop:=∀ g,a.ownBlock = some g -> b.ownBlock ≠ some g
theorem Apart.symm {a b:Value} (h:Apart a b):Apart b a:=fun g h1 h2 => h g h2 h1
theorem Apart.none {b:Value}:Apart (.slice none 0 0) b:=fun _ h => by cases h
structure Row where
 e:TypeId
 k:Nat
 v:Value
 n:Nat
 xs:List Value
def Row.own (w:World) (base:Nat) (r:Row):Prop:=w.ownsRow base r.e r.k r.v r.n r.xs
structure Rows (w:World) (base:Nat) (rs:List Row):Prop where
 own:∀ r ∈ rs,r.own w base
 apart:rs.Pairwise (fun a b => Apart a.v b.v)
theorem Rows.nil (w:World) (base:Nat):Rows w base []:=⟨by simp,List.Pairwise.nil⟩
theorem Rows.alloc {w:World} {base:Nat} {rs:List Row} (h:Rows w base rs) (o:Obj):Rows (w.alloc o) base rs:=⟨fun r hr => World.ownsRow.alloc (h.own r hr) o,h.apart⟩
theorem Rows.since {w w':World} {base:Nat} {rs:List Row} (h:Rows w base rs) (hs:Since w w'):Rows w' base rs:=⟨fun r hr => Att.row_since (h.own r hr) hs,h.apart⟩
theorem Rows.add_nil {w:World} {base:Nat} {rs:List Row} (h:Rows w base rs) (e:TypeId) (k:Nat):Rows w base (rs ++ [⟨e,k,.slice none 0 0,0,[]⟩]):=by
 refine ⟨fun r hr => ?_, ?_⟩
 · rcases List.mem_append.1 hr with hr | hr
   · exact h.own r hr
   · rw [List.mem_singleton.1 hr]; exact World.ownsRow_nil w base e k
 · rw [List.pairwise_append]
   refine ⟨h.apart,by simp,fun a _ b hb => ?_⟩
   rw [List.mem_singleton.1 hb]
   exact Apart.none.symm
theorem Rows.get {w:World} {base:Nat} {A B:List Row} {r:Row} (h:Rows w base (A ++ r :: B)):w.ownsRow base r.e r.k r.v r.n r.xs:=h.own r (by simp)
theorem Rows.turn {w w':World} {base:Nat} {A B:List Row} {r:Row} (h:Rows w base (A ++ r :: B)) (r':Row) (h1:r'.own w' base)
   (hk:∀ s:Row,s.own w base -> Apart r.v s.v -> s.own w' base /\ Apart r'.v s.v):Rows w' base (A ++ r' :: B):=by
 obtain ⟨ho,ha⟩:=h
 rw [List.pairwise_append,List.pairwise_cons] at ha
 obtain ⟨a1,⟨a2,a3⟩,a4⟩:=ha
 refine ⟨fun s hs => ?_, ?_⟩
 · rcases List.mem_append.1 hs with hs | hs
   · exact (hk s (ho s (by simp [hs])) (a4 s hs r (by simp)).symm).1
   · rcases List.mem_cons.1 hs with rfl | hs
     · exact h1
     · exact (hk s (ho s (by simp [hs])) (a2 s hs)).1
 · rw [List.pairwise_append,List.pairwise_cons]
   refine ⟨a1,⟨fun s hs => (hk s (ho s (by simp [hs])) (a2 s hs)).2,a3⟩,fun s hs t ht => ?_⟩
   rcases List.mem_cons.1 ht with rfl | ht
   · exact (hk s (ho s (by simp [hs])) (a4 s hs r (by simp)).symm).2.symm
   · exact a4 s hs t (by simp [ht])
theorem app_rows {T E:TypeId} {z:Value} {size bytes:Nat} (I:ElemIs T E z size bytes) {ops:Array Oper} {rest:List Oper} {o:Oper} {a:Act} {Q:Exit -> Act -> World -> Prop} (hgd:o.guard = none) (s x:Operand)
   (ho:o.op = .call { callee:=.builtin .append,args:=#[s,x],argTypes:=#[T,T] })
   (w0 wr:World) (H:Nat) (hH:wr.heap.size = H) (A B:List Row) (v:Value) (n:Nat) (xs:List Value) (hs:a.eval s = v) (hown:Rows wr w0.heap.size (A ++ ⟨E,size,v,n,xs⟩ :: B)) (hS:Since w0 wr)
   (cells:Array Value) (c m:Nat) (hx:a.eval x = .slice (some ⟨H,0,none⟩) m c) (hl:cells.toList.length = m * size) (h1:∀ u ∈ cells.toList,u.oneCell' = true)
   (h63:n + m <= maxLen) (hbytes:(n + m) * bytes <= 140737488355328)
   (h:∀ v' w',Rows w' w0.heap.size (A ++ ⟨E,size,v',n + m,xs ++ cells.toList⟩ :: B) -> Since w0 w' -> KeptBut wr w' v -> wpList Tryz.prog ops Q rest (a.put o.dst v') w') :
   wpList Tryz.prog ops Q (o :: rest) a (wr.alloc (.cells cells E)):=by
 subst hH
 obtain ⟨ht,hi,hz,hs0⟩:=I
 obtain ⟨i,hi1,hi2⟩:=Option.map_eq_some_iff.1 hi
 simp only [Prod.mk.injEq] at hi2
 have hown1:=hown.get
 have h9:=Below.size hS
 refine wpList_append_own_at (w:=wr.alloc (.cells cells E)) hgd s x T ho w0.heap.size E i z size bytes ht hi1 hi2.1 hi2.2.1 hi2.2.2 hz hs0 v n xs hs (hown1.alloc _) ⟨wr.heap.size,0,none⟩ m c cells.toList hx hl ?_ h1 h63 hbytes (by simp; omega) ?_
 · intro j u hu
   have hj:j < cells.size:=by
     rcases List.getElem?_eq_some_iff.1 hu with ⟨hj,_⟩
     simpa using hj
   have hadd:(⟨wr.heap.size,0,none⟩:Addr).add j = ⟨wr.heap.size,j,none⟩:=by unfold Addr.add; split <;> simp_all
   rw [hadd,(World.rowIs_alloc wr cells E (fun k => cells.getD k (.bool false)) (fun k hk => by simp [Array.getD,hk])).cell hj]
   rw [Array.getElem?_toList] at hu
   simp [Array.getD,hj] at hu ⊢
   exact hu
 · intro v' w' ho' hg _ hw
   refine h v' w' (hown.turn ⟨E,size,v',n + m,xs ++ cells.toList⟩ ho' fun u hu hap => ⟨?_, ?_⟩) ?_ ⟨by have:=hg.size; simp at this; omega,fun b hb hr => ?_⟩
   · refine (World.ownsRow.alloc hu _).kept hg ?_
     cases hub:u.v.ownBlock with
     | none => exact Or.inl rfl
     | some g => exact Or.inr fun e => hap g e.symm hub
   · intro g h2 h3
     rcases hw with hw | hw
     · exact hap g (hw ▸ h2) h3
     · rw [show (⟨E,size,v',n + m,xs ++ cells.toList⟩:Row).v = v' from rfl,hw] at h2
       cases h2
       have h4:=(World.ownsRow.lt hu _ h3).2
       have e4:(wr.alloc (.cells cells E)).heap.size = wr.heap.size + 1:=by simp
       omega
   · exact Below.grown (Below.alloc hS (Below.size hS) _) hg (by simp; omega) (fun k hk => (hown1.lt k hk).1)
   · rw [hg.block b (by simp; omega) hr]
     exact heap_alloc_old _ _ hb
theorem own_set {w:World} {base:Nat} {e:TypeId} {k:Nat} {g n c:Nat} {xs:List Value} (h:w.ownsRow base e k (.slice (some ⟨g,0,none⟩) n c) n xs) (p:Nat) (hp:p < n * k) (x:Value) :
   (w.setCell ⟨g,p,none⟩ x).ownsRow base e k (.slice (some ⟨g,0,none⟩) n c) n (xs.set p x):=by
 refine ⟨by rw [List.length_set]; exact h.1, ?_⟩
 rcases h.2 with ⟨h0,_⟩ | ⟨g',cap,cur,hv,hb,hg,hc,hm,hs,ht⟩
 · cases h0
 · cases hv
   refine .inr ⟨g,c,cur.setIfInBounds p x,rfl,hb, ?_,hc,hm,by simpa using hs, ?_⟩
   · rw [Go.setCell_eq_setRow w g p cur e _ x hg]
     exact setRow_heap w g cur _ e _ hg
   · rw [<- ht]
     apply List.ext_getElem?
     intro i
     simp only [Array.toList_setIfInBounds,List.getElem?_take,List.getElem?_set,List.length_take]
     have hsz:cur.toList.length = c * k:=by simpa using hs
     by_cases hi:i < n * k
     · rw [if_pos hi]
       by_cases hpi:p = i
       · subst hpi
         have h8:n * k <= c * k:=Nat.mul_le_mul_right _ hc
         have h7:p < cur.toList.length:=by omega
         have h6:p < cur.size:=h7
         simp [h6]; omega
       · simp [hpi,hi]
     · have hpi:¬ p = i:=by omega
       simp [hi,hpi]
theorem Rows.set {w:World} {base:Nat} {A B:List Row} {e:TypeId} {k g n c:Nat} {xs:List Value} (h:Rows w base (A ++ ⟨e,k,.slice (some ⟨g,0,none⟩) n c,n,xs⟩ :: B)) (p:Nat) (hp:p < n * k) (x:Value) :
   Rows (w.setCell ⟨g,p,none⟩ x) base (A ++ ⟨e,k,.slice (some ⟨g,0,none⟩) n c,n,xs.set p x⟩ :: B):=by
 have h0:=h.get
 refine h.turn _ (own_set h0 p hp x) fun s hs hap => ⟨?_,hap⟩
 refine ⟨hs.1, ?_⟩
 obtain ⟨cur0,hg0⟩:∃ cur0,w.heap[g]? = some (.cells cur0 e (0,0)):=by
   rcases h0.2 with ⟨h1,_⟩ | ⟨g',cap,cur,hv,hb,hg,_⟩
   · cases h1
   · cases hv; exact ⟨_,hg⟩
 rcases hs.2 with hn | ⟨g',cap,cur,hv,hb,hg,rest⟩
 · exact .inl hn
 · refine .inr ⟨g',cap,cur,hv,hb, ?_,rest⟩
   have hne:g' ≠ g:=fun e => hap g rfl (by rw [hv,e]; rfl)
   rw [Go.setCell_eq_setRow w g p cur0 e _ x hg0,setRow_other w g g' _ hne]; exact hg
end Rw
end Go.Proofs.YtcdjfmlanicjlaaGreatDoor
namespace Go.Proofs.YtcdjfmlanicjlaaGreatDoor
open Go.RowKit Go.Deep
namespace Att
end Att
end Go.Proofs.YtcdjfmlanicjlaaGreatDoor
