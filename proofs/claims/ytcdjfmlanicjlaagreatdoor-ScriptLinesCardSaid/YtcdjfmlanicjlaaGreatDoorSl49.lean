import Derived.Test.YtcdjfmlanicjlaaGreatDoorSl48
import Derived.Sort.KeysCollected
set_option maxRecDepth 100000
namespace Go.Proofs.YtcdjfmlanicjlaaGreatDoor
open Go.RowKit Go.Maps
namespace Scr
theorem wpList_insert_own {H:Type} {P:Program} (w:World) {ops:Array Oper} {rest:List Oper} {o:Oper} {a:Act} {Q:Exit -> Act -> World -> Prop}
   (hg:o.guard = none) (m x v:Operand) (t:TypeId) (hop:o.op = Op.insert t m x v)
   (k e:TypeId) (K:Keyed P k) (ht:P.underlying t = some (.map k e)) (R:Value -> Option (DataW H × List MemPlace)) (b n:Nat) (D:DataW H)
   (hm:a.eval m = .map (some b)) (hown:w.ownsMap P k R b n D) (hn:n < maxLen) (key val:Value) (kl:Lit) (hx:a.eval x = key) (hv:a.eval v = val) (hkey:keyOf P k key = some kl)
   (d:DataW H) (ps:List MemPlace) (hval:R val = some (d,ps))
   (hK:∀ w',w'.ownsMap P k R b (n + 1) (D.put kl d) -> w.grownBy w' (some b) -> wpList P ops Q rest (a.put o.dst undef) w') :
   wpList P ops Q (o :: rest) a w:=by
 refine wpList_plain hg fun K' hK' => ?_
 obtain ⟨w',hrun,r1,r2⟩:=hown.update K ht hn hkey hval
 unfold Oper.wp
 simp [execOp,hop,hm,hx,hv,hrun,Result.andThen]
 exact hK' _ _ (hK w' r1 r2)
theorem lawS:Keyed Tryz.prog 9:=string_keyed Tryz.underlying9
theorem zeroI (w:World):(zeroValue 3).run Tryz.prog w = .ok (.int .i64 0) w:=by kernel_rfl
def wraB:ByteArray:=⟨#[119,114,97,112,112,101,100]⟩
def keyB:ByteArray:=⟨#[107,101,121,101,100]⟩
def DM:DataW Unit:=((DataW.map []).put (.string wraL) (.lit (.int .i64 1))).put (.string keyL) (.lit (.int .i64 2))
abbrev OwnW (w:World) (b:Nat):Prop:=w.ownsMap Tryz.prog 9 (plainElem (H:=Unit) Tryz.prog 3) b 2 DM
theorem words_mk (w:World):Calls Tryz.prog 32 #[] w fun e w' => e = .returned (.map (some w.heap.size)) /\ OwnW w' w.heap.size /\ Since w w':=by
 have hmm:=@run_makeMap Tryz.prog
 have hown:=World.ownsMap_made w Tryz.prog 9 (plainElem (H:=Unit) Tryz.prog 3)
 have hk1:keyOf Tryz.prog 9 (.string wraB) = some (.string wraL):=WideMaps.keyOf_string_mk Tryz.underlying9 (by decide)
 have hk2:keyOf Tryz.prog 9 (.string keyB) = some (.string keyL):=WideMaps.keyOf_string_mk Tryz.underlying9 (by decide)
 have HS:=lH ((Since.refl w).alloc (.map #[] 0))
 go_enter Tryz.func32,Tryz.ntmps32
 go_wp2_with (first
   | (refine wpList_insert_own _ rfl _ _ _ 64 rfl 9 3 lawS Tryz.underlying64 _ w.heap.size 0 _ rfl hown (by decide) _ _ _ rfl rfl hk1 _ [] (plainElem_int Tryz.underlying3 (by decide)) ?_; intro w1 hown1 hg1; refine wpList_insert_own _ rfl _ _ _ 64 rfl 9 3 lawS Tryz.underlying64 _ w.heap.size 1 _ rfl hown1 (by decide) _ _ _ rfl rfl hk2 _ [] (plainElem_int Tryz.underlying3 (by decide)) ?_; intro w2 hown2 hg2; go_frame)
   | go_in)
 have HS2:=lH (HS.out.grown hg1 (by simp) (fun j hj => by cases hj; exact Nat.le_refl _))
 have h1:w.heap.size <= w1.heap.size:=Nat.le_trans (by simp) hg1.size
 have HS3:=lH (HS2.out.grown hg2 h1 (fun j hj => by cases hj; exact Nat.le_refl _))
 go_wp2_with fail
 go_ret
 exact ⟨rfl,hown2,HS3.out⟩
theorem isMap0:IsMap (DataW.map (H:=Unit) []):=⟨_,rfl⟩
theorem keyS (l:List UInt8):WideAt.IsKeyLit (.string l):=trivial
theorem put_map {D:DataW Unit} (h:IsMap D) (k:Lit) (d:DataW Unit):IsMap (D.put k d):=by
 obtain ⟨es,rfl⟩:=h
 exact ⟨_,rfl⟩
theorem at_wra (z:DataW Unit):DM.atKey (.string wraL) z = .lit (.int .i64 1):=by
 unfold DM
 rw [atKey_put_other (fun h => absurd (Lit.string.inj h) (by decide)),atKey_put_same isMap0 (keyS _)]
theorem at_key (z:DataW Unit):DM.atKey (.string keyL) z = .lit (.int .i64 2):=by
 unfold DM
 rw [atKey_put_same (put_map isMap0 _ _) (keyS _)]
theorem at_else (l:List UInt8) (h1:l ≠ wraL) (h2:l ≠ keyL) (z:DataW Unit):DM.atKey (.string l) z = z:=by
 unfold DM
 rw [atKey_put_other (fun h => h2 (Lit.string.inj h)),atKey_put_other (fun h => h1 (Lit.string.inj h))]
 rfl
theorem format_mk (s:ByteArray) (hm:s.size <= 1000000):Mak 13 #[.string s] (.int .i64 (fmtW s.data.toList)):=by
 intro w
 have HM:=lH hm
 have HS:=lH (Since.refl w)
 obtain ⟨F,hF⟩:∃ F,F = fmtW s.data.toList:=⟨_,rfl⟩
 rw [<- hF]
 have HF:=lH hF
 clear hF hm
 go_enter Tryz.func13,Tryz.ntmps13
 go_wp2_with fail
 refine (words_mk _).mono ?_
 rintro _ w1 ⟨rfl,hown,h1⟩
 replace HS:=lH (HS.out.step h1)
 have hkey:keyOf Tryz.prog 9 (.string s) = some (.string s.data.toList):=WideMaps.keyOf_string_mk Tryz.underlying9 (by have:=HM.out; unfold maxLen; omega)
 go_wp2_with (at_lookup; refine wpList_lookup_own_int _ rfl _ _ 64 rfl 9 3 .i64 lawS Tryz.underlying64 Tryz.underlying3 (zeroI _) w.heap.size 2 _ rfl hown _ _ rfl hkey ?_; intro c hat hwc)
 have hc:F = c:=by
   rw [HF.out]
   unfold fmtW
   by_cases h1:s.data.toList = wraL
   · rw [if_pos h1]
     rw [h1,at_wra] at hat
     exact (Lit.int.inj (DataW.lit.inj hat)).2
   · by_cases h2:s.data.toList = keyL
     · rw [if_neg h1,if_pos h2]
       rw [h2,at_key] at hat
       exact (Lit.int.inj (DataW.lit.inj hat)).2
     · rw [if_neg h1,if_neg h2]
       rw [at_else _ h1 h2] at hat
       exact (Lit.int.inj (DataW.lit.inj hat)).2
 subst hc
 clear hat hwc hkey
 go_wp2_with fail
 go_ret
 exact ⟨rfl,HS.out⟩
theorem same_wk:(Lit.string wraL).sameKey (.string keyL) = false:=by decide +kernel
theorem same_kw:(Lit.string keyL).sameKey (.string wraL) = false:=by decide +kernel
def LF (f:Int) (left:Lit -> Bool):Prop:=(left (.string wraL) = false -> f ≠ 1) /\ (left (.string keyL) = false -> f ≠ 2)
theorem has_w:Maps.has DM (.string wraL) = true:=by decide +kernel
theorem has_k:Maps.has DM (.string keyL) = true:=by decide +kernel
theorem entry_is {x:List UInt8} {c:Int} {yd:DataW Unit} {yp:List MemPlace} (hv:plainElem (H:=Unit) Tryz.prog 3 (.int .i64 c) = some (yd,yp)) (hat:∀ zd,DM.atKey (.string x) zd = (yd,yp).1):(x = wraL /\ c = 1) ∨ (x = keyL /\ c = 2):=by
 obtain ⟨c',hc,hy,-⟩:=plainElem_int_inv Tryz.underlying3 hv
 cases hc
 cases hy
 by_cases h1:x = wraL
 · have h9:=hat (.lit (.int .i64 0))
   rw [h1,at_wra] at h9
   exact Or.inl ⟨h1,(Lit.int.inj (DataW.lit.inj h9)).2.symm⟩
 · by_cases h2:x = keyL
   · have h9:=hat (.lit (.int .i64 0))
     rw [h2,at_key] at h9
     exact Or.inr ⟨h2,(Lit.int.inj (DataW.lit.inj h9)).2.symm⟩
   · exfalso
     have h8:=hat (.lit (.int .i64 0))
     have h9:=hat (.lit (.int .i64 1))
     rw [at_else _ h1 h2] at h8 h9
     have:=h8.trans h9.symm
     have:=(Lit.int.inj (DataW.lit.inj this)).2
     omega
set_option maxHeartbeats 4000000 in
theorem word_mk (f:Int):Mak 11 #[.int .i64 f] (.string (bs (wordF f))):=by
 intro w
 have HS:=lH (Since.refl w)
 go_enter Tryz.func11,Tryz.ntmps11
 go_wp2_with fail
 refine (words_mk _).mono ?_
 rintro _ w1 ⟨rfl,hown,h1⟩
 replace HS:=lH (HS.out.step h1)
 have HW1:=lH h1.size
 clear h1
 go_wp2_with (first
   | (at_range; refine wpList_range_own _ rfl _ 64 rfl 9 3 lawS Tryz.underlying64 _ w.heap.size 2 _ rfl hown ?_; intro w2 hrg0 hg0 hs0)
   | go_in)
 go_frame
 have HR:=lH hrg0
 have HS0:=lH (HS.out.grown hg0 HW1.out (fun j hj => by cases hj))
 clear hrg0 hg0 hs0 HS hown
 go_loopw [3] (fun _ wr => ∃ (left:Lit -> Bool) (cnt:Nat),Hid (wr.ranges Tryz.prog 9 (plainElem (H:=Unit) Tryz.prog 3) w.heap.size w1.heap.size 2 DM left cnt) /\ Hid (LF f left) /\ Hid (Since w wr)) (fun _ wr => wr.rangeLeft w.heap.size w1.heap.size)
 case atStart => exact ⟨_,_,HR,lH (show LF f (Maps.has DM) from ⟨fun h => (by rw [has_w] at h; exact absurd h (by decide)),fun h => (by rw [has_k] at h; exact absurd h (by decide))⟩),HS0⟩
 case round =>
   clear HR HS0
   obtain ⟨left,cnt,HR,HL,HS⟩:=hrel
   go_wp2_with (first
     | (at_next; refine wpList_next_ranges _ rfl _ rfl 9 lawS (plainElem (H:=Unit) Tryz.prog 3) Go.Proofs.encStr (Value.int .i64) (fun key kl hk => by obtain ⟨x,hx,_⟩:=Maps.keyOf_str Tryz.underlying9 hk; exact ⟨x,hx⟩) (fun v y hv => by obtain ⟨c,rfl,_⟩:=plainElem_int_inv Tryz.underlying3 hv; exact ⟨c,rfl⟩) w.heap.size w1.heap.size 2 _ _ _ rfl HR.out ?_ ?_)
     | go_in)
   · intro _ hl0
     have HV:Hid (wordF f = []):=lH (by
       unfold wordF
       rw [if_neg (HL.out.1 (hl0 _)),if_neg (HL.out.2 (hl0 _))])
     clear hl0
     go_wp2_with fail
     go_ret
     rw [HV.out]
     exact ⟨rfl,HS.out⟩
   · intro x c kl yd yp w2 cnt2 hkey hlk hv hat hrg2 hlt hg2 hs2 hen
     obtain ⟨x',ex,rfl,_⟩:=Maps.keyOf_str Tryz.underlying9 hkey
     obtain rfl:x = x':=encStr_inj ex
     have hen2:=entry_is hv hat
     have HR2:=lH hrg2
     have HS2:=lH (HS.out.grown hg2 (by have:=HS.out.size; exact this) (fun j hj => by cases hj; exact HW1.out))
     clear hkey hlk hv hat hrg2 hg2 hs2 ex
     rcases hen2 with ⟨rfl,rfl⟩ | ⟨rfl,rfl⟩
     ·
       have HL2:f ≠ 1 -> Hid (LF f (fun z => left z && !z.sameKey (.string wraL))):=fun hne => lH (⟨fun _ => hne,fun h => HL.out.2 (by dsimp only at h; rw [same_kw] at h; simpa using h)⟩)
       by_cases hf:f = 1
       · have q1:((1:Int) == f) = true:=by rw [hf]; rfl
         have HV:Hid (wordF f = wraL):=lH (by rw [hf]; rfl)
         clear HL2 hf
         go_wp2_with fail
         go_ret
         rw [HV.out]
         exact ⟨rfl,HS2.out⟩
       · have q1:((1:Int) == f) = false:=beq_eq_false_iff_ne.2 (fun h => hf h.symm)
         replace HL2:=HL2 hf
         clear hf
         go_wp2_with fail
         go_roundw
         case rel => exact ⟨_,cnt2,HR2,HL2,HS2⟩
         case measure => rw [HR2.out.left_eq,HR.out.left_eq]; exact hlt
     ·
       have HL2:f ≠ 2 -> Hid (LF f (fun z => left z && !z.sameKey (.string keyL))):=fun hne => lH (⟨fun h => HL.out.1 (by dsimp only at h; rw [same_wk] at h; simpa using h),fun _ => hne⟩)
       by_cases hf:f = 2
       · have q1:((2:Int) == f) = true:=by rw [hf]; rfl
         have HV:Hid (wordF f = keyL):=lH (by rw [hf]; rfl)
         clear HL2 hf
         go_wp2_with fail
         go_ret
         rw [HV.out]
         exact ⟨rfl,HS2.out⟩
       · have q1:((2:Int) == f) = false:=beq_eq_false_iff_ne.2 (fun h => hf h.symm)
         replace HL2:=HL2 hf
         clear hf
         go_wp2_with fail
         go_roundw
         case rel => exact ⟨_,cnt2,HR2,HL2,HS2⟩
         case measure => rw [HR2.out.left_eq,HR.out.left_eq]; exact hlt
end Scr
end Go.Proofs.YtcdjfmlanicjlaaGreatDoor
namespace Go.Proofs.YtcdjfmlanicjlaaGreatDoor
open Go.RowKit
namespace Scr
def layI (v:List UInt8):Bool:=(layV v).isSome
theorem str_q (v:ByteArray) (l:List UInt8):(v.toList == l) = (v.data.toList == l):=by rw [toList_d]
theorem lay_putL (v:ByteArray) (hv:v.data.toList = putL):Ret 19 #[.string v] (.tuple #[.string (bs (layD putL)),.bool (layI putL)]):=by
 intro w
 have q_putL:(v.toList == ([112,117,116]:List UInt8)) = true:=by rw [str_q,hv]; decide
 clear hv
 go_enter Tryz.func19,Tryz.ntmps19
 go_wp2_with fail
 go_ret2
 exact ⟨rfl,rfl⟩
theorem lay_addL (v:ByteArray) (hv:v.data.toList = addL):Ret 19 #[.string v] (.tuple #[.string (bs (layD addL)),.bool (layI addL)]):=by
 intro w
 have q_putL:(v.toList == ([112,117,116]:List UInt8)) = false:=by rw [str_q,hv]; decide
 have q_addL:(v.toList == ([97,100,100]:List UInt8)) = true:=by rw [str_q,hv]; decide
 clear hv
 go_enter Tryz.func19,Tryz.ntmps19
 go_wp2_with fail
 go_ret2
 exact ⟨rfl,rfl⟩
theorem lay_getL (v:ByteArray) (hv:v.data.toList = getL):Ret 19 #[.string v] (.tuple #[.string (bs (layD getL)),.bool (layI getL)]):=by
 intro w
 have q_putL:(v.toList == ([112,117,116]:List UInt8)) = false:=by rw [str_q,hv]; decide
 have q_addL:(v.toList == ([97,100,100]:List UInt8)) = false:=by rw [str_q,hv]; decide
 have q_getL:(v.toList == ([103,101,116]:List UInt8)) = true:=by rw [str_q,hv]; decide
 clear hv
 go_enter Tryz.func19,Tryz.ntmps19
 go_wp2_with fail
 go_ret2
 exact ⟨rfl,rfl⟩
theorem lay_expL (v:ByteArray) (hv:v.data.toList = expL):Ret 19 #[.string v] (.tuple #[.string (bs (layD expL)),.bool (layI expL)]):=by
 intro w
 have q_putL:(v.toList == ([112,117,116]:List UInt8)) = false:=by rw [str_q,hv]; decide
 have q_addL:(v.toList == ([97,100,100]:List UInt8)) = false:=by rw [str_q,hv]; decide
 have q_getL:(v.toList == ([103,101,116]:List UInt8)) = false:=by rw [str_q,hv]; decide
 have q_expL:(v.toList == ([101,120,112,111,114,116]:List UInt8)) = true:=by rw [str_q,hv]; decide
 clear hv
 go_enter Tryz.func19,Tryz.ntmps19
 go_wp2_with fail
 go_ret2
 exact ⟨rfl,rfl⟩
theorem lay_droL (v:ByteArray) (hv:v.data.toList = droL):Ret 19 #[.string v] (.tuple #[.string (bs (layD droL)),.bool (layI droL)]):=by
 intro w
 have q_putL:(v.toList == ([112,117,116]:List UInt8)) = false:=by rw [str_q,hv]; decide
 have q_addL:(v.toList == ([97,100,100]:List UInt8)) = false:=by rw [str_q,hv]; decide
 have q_getL:(v.toList == ([103,101,116]:List UInt8)) = false:=by rw [str_q,hv]; decide
 have q_expL:(v.toList == ([101,120,112,111,114,116]:List UInt8)) = false:=by rw [str_q,hv]; decide
 have q_droL:(v.toList == ([100,114,111,112]:List UInt8)) = true:=by rw [str_q,hv]; decide
 clear hv
 go_enter Tryz.func19,Tryz.ntmps19
 go_wp2_with fail
 go_ret2
 exact ⟨rfl,rfl⟩
theorem lay_cheL (v:ByteArray) (hv:v.data.toList = cheL):Ret 19 #[.string v] (.tuple #[.string (bs (layD cheL)),.bool (layI cheL)]):=by
 intro w
 have q_putL:(v.toList == ([112,117,116]:List UInt8)) = false:=by rw [str_q,hv]; decide
 have q_addL:(v.toList == ([97,100,100]:List UInt8)) = false:=by rw [str_q,hv]; decide
 have q_getL:(v.toList == ([103,101,116]:List UInt8)) = false:=by rw [str_q,hv]; decide
 have q_expL:(v.toList == ([101,120,112,111,114,116]:List UInt8)) = false:=by rw [str_q,hv]; decide
 have q_droL:(v.toList == ([100,114,111,112]:List UInt8)) = false:=by rw [str_q,hv]; decide
 have q_cheL:(v.toList == ([99,104,101,99,107]:List UInt8)) = true:=by rw [str_q,hv]; decide
 clear hv
 go_enter Tryz.func19,Tryz.ntmps19
 go_wp2_with fail
 go_ret2
 exact ⟨rfl,rfl⟩
theorem lay_movL (v:ByteArray) (hv:v.data.toList = movL):Ret 19 #[.string v] (.tuple #[.string (bs (layD movL)),.bool (layI movL)]):=by
 intro w
 have q_putL:(v.toList == ([112,117,116]:List UInt8)) = false:=by rw [str_q,hv]; decide
 have q_addL:(v.toList == ([97,100,100]:List UInt8)) = false:=by rw [str_q,hv]; decide
 have q_getL:(v.toList == ([103,101,116]:List UInt8)) = false:=by rw [str_q,hv]; decide
 have q_expL:(v.toList == ([101,120,112,111,114,116]:List UInt8)) = false:=by rw [str_q,hv]; decide
 have q_droL:(v.toList == ([100,114,111,112]:List UInt8)) = false:=by rw [str_q,hv]; decide
 have q_cheL:(v.toList == ([99,104,101,99,107]:List UInt8)) = false:=by rw [str_q,hv]; decide
 have q_movL:(v.toList == ([109,111,118,101]:List UInt8)) = true:=by rw [str_q,hv]; decide
 clear hv
 go_enter Tryz.func19,Tryz.ntmps19
 go_wp2_with fail
 go_ret2
 exact ⟨rfl,rfl⟩
theorem lay_rekL (v:ByteArray) (hv:v.data.toList = rekL):Ret 19 #[.string v] (.tuple #[.string (bs (layD rekL)),.bool (layI rekL)]):=by
 intro w
 have q_putL:(v.toList == ([112,117,116]:List UInt8)) = false:=by rw [str_q,hv]; decide
 have q_addL:(v.toList == ([97,100,100]:List UInt8)) = false:=by rw [str_q,hv]; decide
 have q_getL:(v.toList == ([103,101,116]:List UInt8)) = false:=by rw [str_q,hv]; decide
 have q_expL:(v.toList == ([101,120,112,111,114,116]:List UInt8)) = false:=by rw [str_q,hv]; decide
 have q_droL:(v.toList == ([100,114,111,112]:List UInt8)) = false:=by rw [str_q,hv]; decide
 have q_cheL:(v.toList == ([99,104,101,99,107]:List UInt8)) = false:=by rw [str_q,hv]; decide
 have q_movL:(v.toList == ([109,111,118,101]:List UInt8)) = false:=by rw [str_q,hv]; decide
 have q_rekL:(v.toList == ([114,101,107,101,121]:List UInt8)) = true:=by rw [str_q,hv]; decide
 clear hv
 go_enter Tryz.func19,Tryz.ntmps19
 go_wp2_with fail
 go_ret2
 exact ⟨rfl,rfl⟩
theorem lay_lisL (v:ByteArray) (hv:v.data.toList = lisL):Ret 19 #[.string v] (.tuple #[.string (bs (layD lisL)),.bool (layI lisL)]):=by
 intro w
 have q_putL:(v.toList == ([112,117,116]:List UInt8)) = false:=by rw [str_q,hv]; decide
 have q_addL:(v.toList == ([97,100,100]:List UInt8)) = false:=by rw [str_q,hv]; decide
 have q_getL:(v.toList == ([103,101,116]:List UInt8)) = false:=by rw [str_q,hv]; decide
 have q_expL:(v.toList == ([101,120,112,111,114,116]:List UInt8)) = false:=by rw [str_q,hv]; decide
 have q_droL:(v.toList == ([100,114,111,112]:List UInt8)) = false:=by rw [str_q,hv]; decide
 have q_cheL:(v.toList == ([99,104,101,99,107]:List UInt8)) = false:=by rw [str_q,hv]; decide
 have q_movL:(v.toList == ([109,111,118,101]:List UInt8)) = false:=by rw [str_q,hv]; decide
 have q_rekL:(v.toList == ([114,101,107,101,121]:List UInt8)) = false:=by rw [str_q,hv]; decide
 have q_lisL:(v.toList == ([108,105,115,116]:List UInt8)) = true:=by rw [str_q,hv]; decide
 clear hv
 go_enter Tryz.func19,Tryz.ntmps19
 go_wp2_with fail
 go_ret2
 exact ⟨rfl,rfl⟩
theorem lay_none (v:ByteArray) (h0:v.data.toList ≠ putL) (h1:v.data.toList ≠ addL) (h2:v.data.toList ≠ getL) (h3:v.data.toList ≠ expL) (h4:v.data.toList ≠ droL) (h5:v.data.toList ≠ cheL) (h6:v.data.toList ≠ movL) (h7:v.data.toList ≠ rekL) (h8:v.data.toList ≠ lisL):Ret 19 #[.string v] (.tuple #[.string ⟨#[]⟩,.bool false]):=by
 intro w
 have q_putL:(v.toList == ([112,117,116]:List UInt8)) = false:=by rw [str_q]; exact beq_eq_false_iff_ne.2 h0
 have q_addL:(v.toList == ([97,100,100]:List UInt8)) = false:=by rw [str_q]; exact beq_eq_false_iff_ne.2 h1
 have q_getL:(v.toList == ([103,101,116]:List UInt8)) = false:=by rw [str_q]; exact beq_eq_false_iff_ne.2 h2
 have q_expL:(v.toList == ([101,120,112,111,114,116]:List UInt8)) = false:=by rw [str_q]; exact beq_eq_false_iff_ne.2 h3
 have q_droL:(v.toList == ([100,114,111,112]:List UInt8)) = false:=by rw [str_q]; exact beq_eq_false_iff_ne.2 h4
 have q_cheL:(v.toList == ([99,104,101,99,107]:List UInt8)) = false:=by rw [str_q]; exact beq_eq_false_iff_ne.2 h5
 have q_movL:(v.toList == ([109,111,118,101]:List UInt8)) = false:=by rw [str_q]; exact beq_eq_false_iff_ne.2 h6
 have q_rekL:(v.toList == ([114,101,107,101,121]:List UInt8)) = false:=by rw [str_q]; exact beq_eq_false_iff_ne.2 h7
 have q_lisL:(v.toList == ([108,105,115,116]:List UInt8)) = false:=by rw [str_q]; exact beq_eq_false_iff_ne.2 h8
 clear h0 h1 h2 h3 h4 h5 h6 h7 h8
 go_enter Tryz.func19,Tryz.ntmps19
 go_wp2_with fail
 go_ret2
 exact ⟨rfl,rfl⟩
theorem layout_ret (v:ByteArray):Ret 19 #[.string v] (.tuple #[.string (bs (layD v.data.toList)),.bool (layI v.data.toList)]):=by
 by_cases h0:v.data.toList = putL
 · rw [h0]; exact lay_putL v h0
 by_cases h1:v.data.toList = addL
 · rw [h1]; exact lay_addL v h1
 by_cases h2:v.data.toList = getL
 · rw [h2]; exact lay_getL v h2
 by_cases h3:v.data.toList = expL
 · rw [h3]; exact lay_expL v h3
 by_cases h4:v.data.toList = droL
 · rw [h4]; exact lay_droL v h4
 by_cases h5:v.data.toList = cheL
 · rw [h5]; exact lay_cheL v h5
 by_cases h6:v.data.toList = movL
 · rw [h6]; exact lay_movL v h6
 by_cases h7:v.data.toList = rekL
 · rw [h7]; exact lay_rekL v h7
 by_cases h8:v.data.toList = lisL
 · rw [h8]; exact lay_lisL v h8
 have e:layV v.data.toList = none:=by
   unfold layV
   rw [if_neg h0,if_neg h1,if_neg h2,if_neg h3,if_neg h4,if_neg h5,if_neg h6,if_neg h7,if_neg h8]
 unfold layD layI
 rw [e]
 exact lay_none v h0 h1 h2 h3 h4 h5 h6 h7 h8
theorem nm_bad {l:List UInt8} {c:UInt8} (h:c ∈ l) (hc:okN c = false):nameO l = false:=by
 have h1:l.all okN = false:=by
   cases h2:l.all okN
   · rfl
   · have h3:=List.all_eq_true.1 h2 c h
     rw [hc] at h3
     cases h3
 unfold nameO
 rw [h1]
 simp
theorem okN_is (c:UInt8):okN c = true ↔ 33 <= c.toNat /\ c.toNat <= 126:=by
 unfold okN
 simp only [Bool.and_eq_true,decide_eq_true_eq]
set_option maxHeartbeats 4000000 in
theorem named_ret (s:ByteArray) (hm:s.size <= 1000000):Ret 24 #[.string s] (.bool (nameO s.data.toList)):=by
 intro w
 obtain ⟨l,hl⟩:∃ l,l = s.data.toList:=⟨_,rfl⟩
 have HL:=lH hl
 have HLN:=lH (show l.length = s.size by rw [hl]; rfl)
 rw [<- hl]
 obtain ⟨B,hB⟩:∃ B,B = nameO l:=⟨_,rfl⟩
 rw [<- hB]
 have HB:=lH hB
 have hq:(s.toList == ([]:List UInt8)) = decide (s.size = 0):=by
   rw [toList_d]
   by_cases h0:s.size = 0
   · rw [List.length_eq_zero_iff.1 (show s.data.toList.length = 0 from h0),decide_eq_true h0]
     rfl
   · rw [decide_eq_false h0]
     exact beq_eq_false_iff_ne.2 (fun h => h0 (by show s.data.toList.length = 0; rw [h]; rfl))
 have HQ:=lH hq
 clear hl hB hq
 go_enter Tryz.func24,Tryz.ntmps24
 go_wp2_with fail
 go_loop [6] (fun i => ∃ k:Nat,k <= s.size /\ i = .int .i64 (k:Int) /\ Hid ((l.take k).all okN = true)) (fun i => s.size - (intOf i).toNat)
 case atStart => exact ⟨0,Nat.zero_le _,rfl,lH rfl⟩
 case round =>
   obtain ⟨k,hk,rfl,HALL⟩:=hrel
   by_cases hlt:k < s.size
   · have j1:(0:Int) <= (k:Int):=by omega
     have j2:(k:Int) < (s.size:Int):=by omega
     obtain ⟨c,hc⟩:∃ c,c = s[k]:=⟨_,rfl⟩
     have hcc:c.toNat = s[k].toNat:=by rw [hc]
     have HTK:Hid (l.take (k + 1) = l.take k ++ [c]):=lH (by
       rw [HL.out,List.take_succ_eq_append_getElem (by exact hlt),hc]
       rfl)
     have HMEM:Hid (c ∈ l):=lH (by rw [HL.out,hc]; exact List.getElem_mem (by exact hlt))
     rcases (show s[k].toNat < 33 ∨ (33 <= s[k].toNat /\ s[k].toNat <= 126) ∨ (33 <= s[k].toNat /\ 126 < s[k].toNat) by omega) with h | ⟨h,g⟩ | ⟨h,g⟩
     · have HV:Hid (B = false):=lH (by rw [HB.out]; exact nm_bad HMEM.out (by
         cases ho:okN c
         · rfl
         · have:=(okN_is c).1 ho
           omega))
       clear hc HALL HTK HMEM
       go_wp2_with fail
       go_ret
       rw [HV.out]
       exact ⟨rfl,rfl⟩
     · have HA2:Hid ((l.take (k + 1)).all okN = true):=lH (by
         rw [HTK.out,List.all_append,HALL.out]
         simp only [List.all_cons,List.all_nil,Bool.and_true,Bool.true_and]
         exact (okN_is c).2 (by omega))
       clear hc HALL HTK HMEM
       go_wp2_with fail
       go_round
       case rel => exact ⟨k + 1,by omega,by go_num,HA2⟩
       case measure => (simp [intOf] <;> omega)
     · have HV:Hid (B = false):=lH (by rw [HB.out]; exact nm_bad HMEM.out (by
         cases ho:okN c
         · rfl
         · have:=(okN_is c).1 ho
           omega))
       have t1:decide ((s[k].toNat:Int) < 33) = false:=decide_eq_false (by omega)
       have t2:decide ((126:Int) < (s[k].toNat:Int)) = true:=decide_eq_true (by omega)
       clear hc HALL HTK HMEM
       go_wp2_with fail
       go_ret
       rw [HV.out]
       exact ⟨rfl,rfl⟩
   · obtain rfl:k = s.size:=by omega
     have hall:l.all okN = true:=by
       have h9:=HALL.out
       rwa [List.take_of_length_le (by rw [HLN.out]; exact Nat.le_refl _)] at h9
     have HV:Hid (B = (decide (1 <= s.size) && decide (s.size <= 100))):=lH (by rw [HB.out]; unfold nameO; rw [hall,HLN.out,Bool.and_true])
     have q0:=HQ.out
     by_cases h0:s.size = 0
     · rw [decide_eq_true h0] at q0
       have HV2:Hid (B = false):=lH (by rw [HV.out,h0]; rfl)
       clear hall
       go_wp2_with fail
       go_ret
       rw [HV2.out]
       exact ⟨rfl,rfl⟩
     · rw [decide_eq_false h0] at q0
       by_cases h1:s.size <= 100
       · have HV2:Hid (B = true):=lH (by rw [HV.out,decide_eq_true h1,decide_eq_true (by omega)]; rfl)
         have t1:decide ((s.size:Int) <= 100) = true:=decide_eq_true (by omega)
         clear hall
         go_wp2_with fail
         go_ret
         rw [HV2.out]
         exact ⟨rfl,rfl⟩
       · have HV2:Hid (B = false):=lH (by rw [HV.out,decide_eq_false h1,Bool.and_false])
         have t1:decide ((s.size:Int) <= 100) = false:=decide_eq_false (by omega)
         clear hall
         go_wp2_with fail
         go_ret
         rw [HV2.out]
         exact ⟨rfl,rfl⟩
end Scr
end Go.Proofs.YtcdjfmlanicjlaaGreatDoor
