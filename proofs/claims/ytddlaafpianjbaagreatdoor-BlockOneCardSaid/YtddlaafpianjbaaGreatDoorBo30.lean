import Derived.Test.YtddlaafpianjbaaGreatDoorBo24
import Derived.Deep.RegionHeld3
set_option maxRecDepth 100000
namespace Go.Proofs.YtddlaafpianjbaaGreatDoor
open Go.RowKit
namespace Templ
open Att
structure KA (WB:World) (b q:Nat) (t:Int) (s:ByteArray) (W:World):Prop where
 since:Since WB W
 c0:W.cell? ⟨b,q,none⟩ = some (.int .i64 t)
 c1:W.cell? ⟨b,q + 1,none⟩ = some (.string s)
 lb:b < W.heap.size
end Templ
namespace Templ
open Att
def prsF:Nat -> List UInt8 -> Option (List A2)
 | 0,l => if l.length = 0 then some [] else none
 | f + 1,l => if l.length = 0 then some [] else if l.length < 3 then none else if l.length < 3 + (l.getD 2 0).toNat then none else
   match prsF f (l.drop (3 + (l.getD 2 0).toNat)) with
   | none => none
   | some L => some ((256 * ((l.getD 0 0).toNat:Int) + ((l.getD 1 0).toNat:Int),bs ((l.drop 3).take (l.getD 2 0).toNat)) :: L)
theorem prsF_fuel:∀ (f g:Nat) (l:List UInt8),l.length <= f -> l.length <= g -> prsF f l = prsF g l:=by
 intro f
 induction f with
 | zero =>
   intro g l h1 h2
   cases g with
   | zero => rfl
   | succ g => unfold prsF; rw [if_pos (by omega),if_pos (by omega)]
 | succ f ih =>
   intro g l h1 h2
   by_cases h0:l.length = 0
   · cases g with
     | zero => unfold prsF; rw [if_pos h0,if_pos h0]
     | succ g => unfold prsF; rw [if_pos h0,if_pos h0]
   · obtain ⟨g,rfl⟩:∃ g',g = g' + 1:=⟨g - 1,by omega⟩
     unfold prsF
     rw [if_neg h0,if_neg h0]
     split
     · rfl
     · split
       · rfl
       · rw [ih g (l.drop (3 + (l.getD 2 0).toNat)) (by rw [List.length_drop]; omega) (by rw [List.length_drop]; omega)]
def prs (l:List UInt8):Option (List A2):=prsF l.length l
theorem prs_nil:prs [] = some []:=rfl
theorem prs_short (l:List UInt8) (h0:0 < l.length) (h:l.length < 3):prs l = none:=by
 unfold prs
 obtain ⟨f,hf⟩:∃ f,l.length = f + 1:=⟨l.length - 1,by omega⟩
 rw [hf]; unfold prsF
 rw [if_neg (by omega),if_pos h]
theorem prs_cut (l:List UInt8) (h:3 <= l.length) (h2:l.length < 3 + (l.getD 2 0).toNat):prs l = none:=by
 unfold prs
 obtain ⟨f,hf⟩:∃ f,l.length = f + 1:=⟨l.length - 1,by omega⟩
 rw [hf]; unfold prsF
 rw [if_neg (by omega),if_neg (by omega),if_pos h2]
theorem prs_step (l:List UInt8) (h:3 <= l.length) (h2:3 + (l.getD 2 0).toNat <= l.length):prs l = match prs (l.drop (3 + (l.getD 2 0).toNat)) with
   | none => none
   | some L => some ((256 * ((l.getD 0 0).toNat:Int) + ((l.getD 1 0).toNat:Int),bs ((l.drop 3).take (l.getD 2 0).toNat)) :: L):=by
 unfold prs
 obtain ⟨f,hf⟩:∃ f,l.length = f + 1:=⟨l.length - 1,by omega⟩
 rw [hf]
 conv => lhs; unfold prsF
 rw [if_neg (by omega),if_neg (by omega),if_neg (by omega),prsF_fuel f (l.drop (3 + (l.getD 2 0).toNat)).length _ (by rw [List.length_drop]; omega) (Nat.le_refl _)]
def goes (l:List UInt8) (L:List A2) (r:List UInt8):Prop:=prs l = match prs r with | none => none | some M => some (L ++ M)
theorem goes_start (l:List UInt8):goes l [] l:=by unfold goes; cases prs l <;> rfl
theorem goes_end {l:List UInt8} {L:List A2} (h:goes l L []):prs l = some L:=by unfold goes at h; rw [h,prs_nil]; simp
theorem goes_none {l r:List UInt8} {L:List A2} (h:goes l L r) (hr:prs r = none):prs l = none:=by unfold goes at h; rw [h,hr]
theorem goes_step {l r:List UInt8} {L:List A2} (h:goes l L r) (h1:3 <= r.length) (h2:3 + (r.getD 2 0).toNat <= r.length):goes l (L ++ [(256 * ((r.getD 0 0).toNat:Int) + ((r.getD 1 0).toNat:Int),bs ((r.drop 3).take (r.getD 2 0).toNat))]) (r.drop (3 + (r.getD 2 0).toNat)):=by
 unfold goes at *
 rw [h,prs_step r h1 h2]
 cases prs (r.drop (3 + (r.getD 2 0).toNat)) with
 | none => rfl
 | some M => simp
def decO (t:List UInt8):Option (List A2):=if Dig.unB t then prs (Dig.unS t).data.toList else none
def pL:Option (List A2) -> List A2
 | some L => if attOk L then L else []
 | none => []
def pE:Option (List A2) -> Int
 | some L => attE L
 | none => 5
theorem p_bad (L:List A2) (h2:attE L ≠ 0):pL (some L) = []:=if_neg (fun h3 => h2 ((attE_zero L).2 h3))
theorem p_good (L:List A2) (h2:attE L = 0):pL (some L) = L:=if_pos ((attE_zero L).1 h2)
theorem low2 (n:Int) (h0:0 <= n) (h:n <= 65535):RefOct.low n 2 = [UInt8.ofNat (n / 256).toNat,UInt8.ofNat (n % 256).toNat]:=by
 have h1:(2:Int) ^ (8 * 1) = 256:=by decide
 have h2:(2:Int) ^ (8 * 0) = 1:=by decide
 show [UInt8.ofNat (n / 2 ^ (8 * 1) % 256).toNat,UInt8.ofNat (n / 2 ^ (8 * 0) % 256).toNat] = _
 rw [h1,h2,Int.ediv_one]
 have:n / 256 % 256 = n / 256:=by omega
 rw [this]
theorem low1 (n:Int) (h0:0 <= n) (h:n <= 255):RefOct.low n 1 = [UInt8.ofNat n.toNat]:=by
 have h2:(2:Int) ^ (8 * 0) = 1:=by decide
 show [UInt8.ofNat (n / 2 ^ (8 * 0) % 256).toNat] = _
 rw [h2,Int.ediv_one]
 have:n % 256 = n:=by omega
 rw [this]
theorem u8_nat (n:Nat) (h:n < 256):(UInt8.ofNat n).toNat = n:=by rw [UInt8.toNat_ofNat']; exact Nat.mod_eq_of_lt h
theorem prs_raw (l:List A2) (h:∀ p ∈ l,1 <= p.1 /\ p.1 <= 65535 /\ p.2.size <= 255):prs (rawT l) = some l:=by
 induction l with
 | nil => rfl
 | cons p l ih =>
   have h1:=ih (fun q hq => h q (List.mem_cons_of_mem _ hq))
   obtain ⟨a,b,c⟩:=h p List.mem_cons_self
   have hd:p.2.data.toList.length = p.2.size:=rfl
   have e:rawT (p :: l) = UInt8.ofNat (p.1 / 256).toNat :: UInt8.ofNat (p.1 % 256).toNat :: UInt8.ofNat p.2.size :: (p.2.data.toList ++ rawT l):=by
     rw [rawT_cons,low2 p.1 (by omega) b,low1 (p.2.size:Int) (by omega) (by omega)]
     rfl
   have hz:((rawT (p :: l)).getD 2 0).toNat = p.2.size:=by rw [e]; exact u8_nat _ (by omega)
   have h3:3 <= (rawT (p :: l)).length:=by rw [e]; simp
   have h4:3 + ((rawT (p :: l)).getD 2 0).toNat <= (rawT (p :: l)).length:=by rw [hz,e]; simp [hd]; omega
   rw [prs_step _ h3 h4,hz]
   have hdr:(rawT (p :: l)).drop (3 + p.2.size) = rawT l:=by
     rw [e,<- List.drop_drop]
     show ((p.2.data.toList ++ rawT l)).drop p.2.size = _
     rw [<- hd,List.drop_left]
   have htk:((rawT (p :: l)).drop 3).take p.2.size = p.2.data.toList:=by
     rw [e]
     show ((p.2.data.toList ++ rawT l)).take p.2.size = _
     rw [<- hd,List.take_left]
   have h0:(((rawT (p :: l)).getD 0 0).toNat:Int) = p.1 / 256:=by rw [e]; show ((UInt8.ofNat (p.1 / 256).toNat).toNat:Int) = _; rw [u8_nat _ (by omega)]; omega
   have h5:(((rawT (p :: l)).getD 1 0).toNat:Int) = p.1 % 256:=by rw [e]; show ((UInt8.ofNat (p.1 % 256).toNat).toNat:Int) = _; rw [u8_nat _ (by omega)]; omega
   rw [hdr,h1,htk,h0,h5,bs_list]
   show some ((256 * (p.1 / 256) + p.1 % 256,p.2) :: l) = _
   rw [show 256 * (p.1 / 256) + p.1 % 256 = p.1 from by omega]
theorem raw_prs (l:List UInt8) (L:List A2) (h:prs l = some L):rawT L = l:=by
 have key:∀ (n:Nat) (l:List UInt8) (L:List A2),l.length <= n -> prs l = some L -> rawT L = l:=by
   intro n
   induction n with
   | zero =>
     intro l L hn h
     obtain rfl:=List.length_eq_zero_iff.1 (show l.length = 0 by omega)
     rw [prs_nil] at h; cases h; rfl
   | succ n ih =>
     intro l L hn h
     by_cases h0:l.length = 0
     · obtain rfl:=List.length_eq_zero_iff.1 h0
       rw [prs_nil] at h; cases h; rfl
     by_cases h3:l.length < 3
     · rw [prs_short l (by omega) h3] at h; cases h
     by_cases h4:l.length < 3 + (l.getD 2 0).toNat
     · rw [prs_cut l (by omega) h4] at h; cases h
     rw [prs_step l (by omega) (by omega)] at h
     cases hr:prs (l.drop (3 + (l.getD 2 0).toNat)) with
     | none => rw [hr] at h; cases h
     | some M =>
       rw [hr] at h
       cases h
       have:=ih _ M (by rw [List.length_drop]; omega) hr
       match l,h3 with
       | a :: b :: c :: r,_ =>
         have ha:=a.toNat_lt
         have hb:=b.toNat_lt
         have hc:=c.toNat_lt
         rw [rawT_cons,this]
         show RefOct.low (256 * (a.toNat:Int) + (b.toNat:Int)) 2 ++ (RefOct.low ((bs (r.take c.toNat)).size:Int) 1 ++ (r.take c.toNat ++ (a :: b :: c :: r).drop (3 + c.toNat))) = _
         have hl:(r.take c.toNat).length = c.toNat:=by
           have h9:¬ (a :: b :: c :: r).length < 3 + c.toNat:=h4
           simp at h9
           rw [List.length_take]; omega
         rw [low2 _ (by omega) (by omega),size_bs,hl,low1 _ (by omega) (by omega),<- List.drop_drop]
         have e1:((256 * (a.toNat:Int) + (b.toNat:Int)) / 256).toNat = a.toNat:=by omega
         have e2:((256 * (a.toNat:Int) + (b.toNat:Int)) % 256).toNat = b.toNat:=by omega
         rw [e1,e2,Int.toNat_natCast]
         simp only [UInt8.ofNat_toNat]
         show a :: b :: c :: (r.take c.toNat ++ r.drop c.toNat) = _
         rw [List.take_append_drop]
       | [],h3 => exact absurd (by decide) h3
       | [_],h3 => exact absurd (by simp) h3
       | [_,_],h3 => exact absurd (by simp) h3
 exact key l.length l L (Nat.le_refl _) h
end Templ
namespace Templ
open Att
theorem unhex_all (s:ByteArray) (hm:s.size <= 1000000):Mak 166 #[.string s] (.tuple #[.string (Dig.unS s.data.toList),.bool (Dig.unB s.data.toList)]):=by
 have hl:s.data.toList.length = s.size:=rfl
 by_cases h:s.size % 2 = 0
 · have e:Dig.unB s.data.toList = Dig.okN s.data.toList (s.size / 2):=by
     unfold Dig.unB
     rw [hl,decide_eq_true h,Bool.true_and]
   exact fun w => Dig.unhex_even s (s.size / 2) w (by omega) (by omega) _ _ e (by unfold Dig.unS; rw [e,hl])
 · have e:Dig.unB s.data.toList = false:=by
     unfold Dig.unB
     rw [hl,decide_eq_false h,Bool.false_and]
   unfold Dig.unS
   rw [e]
   exact fun w => Dig.unhex_odd s w (by omega) (by omega)
theorem runhex_all (s:ByteArray) (hm:s.size <= 1000000):Mak 80 #[.string s] (.tuple #[.string (Dig.unS s.data.toList),.bool (Dig.unB s.data.toList)]):=by
 have hl:s.data.toList.length = s.size:=rfl
 by_cases h:s.size % 2 = 0
 · have e:Dig.unB s.data.toList = Dig.okN s.data.toList (s.size / 2):=by
     unfold Dig.unB
     rw [hl,decide_eq_true h,Bool.true_and]
   exact fun w => RefDig.unhex_even s (s.size / 2) w (by omega) (by omega) _ _ e (by unfold Dig.unS; rw [e,hl])
 · have e:Dig.unB s.data.toList = false:=by
     unfold Dig.unB
     rw [hl,decide_eq_false h,Bool.false_and]
   unfold Dig.unS
   rw [e]
   exact fun w => RefDig.unhex_odd s w (by omega) (by omega)
theorem unS_le (l:List UInt8):(Dig.unS l).size <= l.length / 2:=by
 unfold Dig.unS
 split
 · rw [strOfNums_size]; simp
 · exact Nat.zero_le _
def Fresh (n:Nat) (v:Value):Prop:=∀ A l c,v = .slice (some A) l c -> n <= A.block
def AttsN (w w':World) (v:Value) (L:List A2):Prop:=AttsS w' v L /\ Fresh w.heap.size v
theorem AttsN.nil (w w':World):AttsN w w' (.slice none 0 0) []:=⟨AttsS.nil _,fun _ _ _ h => by cases h⟩
def PostA (w:World) (L:List A2) (e:Int) (x:Ending) (w':World):Prop:=∃ v,x = .returned (.tuple #[v,.int .i64 e]) /\ AttsN w w' v L /\ Below w.heap.size w w'
def MkA (f:Nat) (args:Array Value) (L:List A2) (e:Int):Prop:=∀ w,Calls Tryz.prog f args w (PostA w L e)
theorem MkA.calls1 {f:Nat} {args:Array Value} {L:List A2} {e:Int} (h:MkA f args L e) {w:World} {R:Ending -> World -> Prop} (k:∀ v w',AttsN w w' v L -> Since w w' -> R (.returned (.tuple #[v,.int .i64 e])) w'):Calls Tryz.prog f args w R :=
 (h w).mono fun _ _ ⟨v,he,ho,hb⟩ => by subst he; exact k v _ ho hb
def OwnA (w W:World) (v:Value) (k:Nat) (L:List A2):Prop:=W.ownsRow w.heap.size 68 2 v k (L.flatMap ac) /\ L.length = k
theorem OwnA.read {w W:World} {v:Value} {k:Nat} {L:List A2} (h:OwnA w W v k L):AttsS W v L:=by
 obtain ⟨h1,rfl⟩:=h
 exact AttsS.own h1
theorem OwnA.fresh {w W:World} {v:Value} {k:Nat} {L:List A2} (h:OwnA w W v k L):Fresh w.heap.size v:=by
 intro A l c hv
 rcases h.1.2 with ⟨h1,_⟩ | ⟨g,cap,cur,h1,hb,_⟩
 · rw [h1] at hv; cases hv
 · rw [h1] at hv; cases hv; exact hb
theorem elemA:ElemIs 22 68 (.agg #[.int .i64 0,.string ⟨#[]⟩]) 2 24:=⟨Tryz.underlying22,by kernel_rfl,rfl,by decide⟩
theorem own_a1 {w W:World} {v:Value} {k:Nat} {L M:List A2} {t:Int} {s:ByteArray} (h:W.ownsRow w.heap.size 68 2 v (k + 1) (L.flatMap ac ++ #[Value.int .i64 t,Value.string s].toList)) (hk:L.length = k) (hM:M = L ++ [(t,s)]):OwnA w W v (k + 1) M:=by
 subst hM hk
 refine ⟨?_,by rw [List.length_append]; rfl⟩
 rw [List.flatMap_append]
 exact h
theorem getD_at (s:ByteArray) (k:Nat) (h:k < s.size):s.data.toList.getD k 0 = s[k]:=by
 have h2:k < s.data.toList.length:=h
 rw [List.getD,List.getElem?_eq_getElem h2]
 rfl
theorem num2 (a b:UInt8):Oct.numN [a,b] = 256 * a.toNat + b.toNat:=by unfold Oct.numN; simp [List.foldl]; omega
theorem ext2 (S:ByteArray) (h:2 < S.size):Oct.numN (S.extract 0 2).data.toList = 256 * S[0].toNat + S[1].toNat:=by
 rw [ext_list]
 have h2:2 < S.data.toList.length:=h
 have e:(S.data.toList.drop 0).take (2 - 0) = [S[0],S[1]]:=by
   rw [List.drop_zero]
   apply List.ext_getElem?
   intro i
   rcases i with _ | _ | i
   · rw [List.getElem?_take,if_pos (by omega),List.getElem?_eq_getElem (by omega)]; rfl
   · rw [List.getElem?_take,if_pos (by omega),List.getElem?_eq_getElem (by omega)]; rfl
   · rw [List.getElem?_take,if_neg (by omega)]; rfl
 rw [e,num2]
theorem goes_at {l:List UInt8} {L:List A2} {S:ByteArray} (h:goes l L S.data.toList) (h3:2 < S.size) (h4:3 + S[2].toNat <= S.size):goes l (L ++ [(256 * (S[0].toNat:Int) + (S[1].toNat:Int),S.extract 3 (3 + S[2].toNat))]) (S.extract (3 + S[2].toNat) S.size).data.toList:=by
 have hl:S.data.toList.length = S.size:=rfl
 have e0:=getD_at S 0 (by omega)
 have e1:=getD_at S 1 (by omega)
 have e2:=getD_at S 2 h3
 have g:=goes_step h (by omega) (by rw [e2]; omega)
 rw [e0,e1,e2] at g
 have x1:bs ((S.data.toList.drop 3).take S[2].toNat) = S.extract 3 (3 + S[2].toNat):=by
   apply ba_ext
   rw [ext_list,list_bs,show 3 + S[2].toNat - 3 = S[2].toNat by omega]
 have x2:S.data.toList.drop (3 + S[2].toNat) = (S.extract (3 + S[2].toNat) S.size).data.toList:=by
   rw [ext_list,List.take_of_length_le (by rw [List.length_drop]; omega)]
 rw [x1,x2] at g
 exact g
def strLen:Value -> Nat
 | .string s => s.size
 | _ => 0
theorem dec_odd (t X:ByteArray) (c1:Mak 166 #[.string t] (.tuple #[.string X,.bool false])):MkA 165 #[.string t] [] 5:=by
 intro w
 have HS:=lH (Since.refl w)
 go_enter Tryz.func165,Tryz.ntmps165
 go_wp2_with fail
 refine wp_scope_some 1 ?_
 go_wp2_with fail
 refine (c1.calls0) ?_
 intro w1 h1
 replace HS:=lH (HS.out.step (Up.up h1))
 clear h1
 go_wp2_with fail
 go_step3
 refine ⟨_,rfl, ?_⟩
 go_wp2_with fail
 go_ret2
 exact ⟨_,rfl,AttsN.nil _ _,HS.out⟩
set_option maxHeartbeats 8000000 in
theorem dec_main (t X:ByteArray) (hX:X.size <= 1000000) (c1:Mak 166 #[.string t] (.tuple #[.string X,.bool true])) (O:Option (List A2)) (hO:O = prs X.data.toList) (L0:List A2) (E0:Int)
   (hL:L0 = pL O) (hE:E0 = pE O):MkA 165 #[.string t] L0 E0:=by
 intro w
 have HS:=lH (Since.refl w)
 have HO:=lH hO
 have HL:=lH hL
 have HE:=lH hE
 clear hO hL hE
 go_enter Tryz.func165,Tryz.ntmps165
 go_wp2_with fail
 refine wp_scope_some 1 ?_
 go_wp2_with fail
 refine (c1.calls0) ?_
 intro w1 h1
 replace HS:=lH (HS.out.step (Up.up h1))
 clear h1
 go_wp2_with fail
 go_loopw [4,5,7,8,9] (fun lv sv _ _ _ wr => ∃ (k:Nat) (L:List A2) (S:ByteArray),sv = .string S /\ S.size + k <= X.size /\ Hid (goes X.data.toList L S.data.toList) /\ Hid (OwnA w wr lv k L) /\ Hid (Since w wr)) (fun _ sv _ _ _ _ => strLen sv)
 case atStart => exact ⟨0,[],X,rfl,by omega,lH (goes_start _),lH ⟨World.ownsRow_nil _ _ _ _,rfl⟩,HS⟩
 case round =>
   clear HS
   obtain ⟨k,L,S,rfl,hSk,HG,HW,HS⟩:=hrel
   by_cases h0:S.size = 0
   · obtain rfl:S = ⟨#[]⟩:=by apply ba_ext; exact List.length_eq_zero_iff.1 h0
     have hO:=HO.out.trans (goes_end HG.out)
     rw [hO] at HL HE
     have c3:=check_rd L (attE L) rfl
     have HX:=lH HW.out.read
     have HFr:=lH HW.out.fresh
     by_cases hz:attE L = 0
     · obtain rfl:E0 = 0:=HE.out.trans hz
       obtain rfl:L0 = L:=HL.out.trans (p_good L hz)
       rw [hz] at c3
       clear h0 hO HG HW hz HL HE HO
       go_wp2_with fail
       refine (c3.calls0 HX.out) ?_
       intro w5 h5
       replace HX:=lH (HX.out.since (Up.up h5))
       replace HS:=lH (HS.out.step (Up.up h5))
       clear h5
       go_wp2_with fail
       simp only [Exit.jumps]
       go_ret2
       exact ⟨_,rfl,⟨HX.out,HFr.out⟩,HS.out⟩
     · have t5:(attE L == 0) = false:=beq_eq_false_iff_ne.2 hz
       obtain rfl:L0 = []:=HL.out.trans (p_bad L hz)
       obtain ⟨E,hE⟩:∃ E,attE L = E:=⟨_,rfl⟩
       rw [hE] at c3 t5
       obtain rfl:E0 = E:=HE.out.trans hE
       clear h0 hO HG HW hz HL HE HO hE
       go_wp2_with fail
       refine (c3.calls0 HX.out) ?_
       intro w5 h5
       replace HX:=lH (HX.out.since (Up.up h5))
       replace HS:=lH (HS.out.step (Up.up h5))
       clear h5
       go_wp2_with fail
       simp only [Exit.jumps]
       go_ret2
       exact ⟨_,rfl,AttsN.nil _ _,HS.out⟩
   · have b1:=some_bytes S (by omega)
     have b2:=some_bytes_f S (by omega)
     by_cases h3:S.size < 3
     · have t1:decide ((S.size:Int) < 3) = true:=decide_eq_true (by omega)
       have hO:=HO.out.trans (goes_none HG.out (prs_short _ (by show 0 < S.size; omega) h3))
       rw [hO] at HL HE
       obtain rfl:E0 = 5:=HE.out
       obtain rfl:L0 = []:=HL.out
       go_wp2_with fail
       go_step3
       refine ⟨_,rfl, ?_⟩
       go_wp2_with fail
       go_ret2
       exact ⟨_,rfl,AttsN.nil _ _,HS.out⟩
     · have t1:decide ((S.size:Int) < 3) = false:=decide_eq_false (by omega)
       have i2:2 < S.size:=by omega
       have hb:=S[2].toNat_lt
       have ew:wrap64 (3 + (S[2].toNat:Int)) = 3 + (S[2].toNat:Int):=IntWalk.wrap64_in _ (by omega)
       by_cases h4:S.size < 3 + S[2].toNat
       · have t2:decide ((S.size:Int) < 3 + (S[2].toNat:Int)) = true:=decide_eq_true (by omega)
         have hO:=HO.out.trans (goes_none HG.out (prs_cut _ (by show 3 <= S.size; omega) (by rw [getD_at S 2 i2]; exact h4)))
         rw [hO] at HL HE
         obtain rfl:E0 = 5:=HE.out
         obtain rfl:L0 = []:=HL.out
         go_wp2_with fail
         go_step3
         refine ⟨_,rfl, ?_⟩
         go_wp2_with fail
         go_ret2
         exact ⟨_,rfl,AttsN.nil _ _,HS.out⟩
       · have t2:decide ((S.size:Int) < 3 + (S[2].toNat:Int)) = false:=decide_eq_false (by omega)
         have HG2:=lH (goes_at HG.out i2 (by omega))
         have hb0:=S[0].toNat_lt
         have hb1:=S[1].toNat_lt
         obtain ⟨T,hT⟩:∃ T:Nat,256 * S[0].toNat + S[1].toNat = T:=⟨_,rfl⟩
         have hT9:T < 65536:=by omega
         have c2:Ret 75 #[.string (S.extract 0 2)] (.tuple #[.int .u64 (T:Int),.bool true]):=fun W => by
           have h:=Oct.get_in (S.extract 0 2) W (by rw [ByteArray.size_extract]; omega) (by rw [ByteArray.size_extract]; omega)
           rw [ext2 S i2,hT] at h
           exact h
         have hTi:256 * (S[0].toNat:Int) + (S[1].toNat:Int) = (T:Int):=by omega
         rw [hTi] at HG2
         have e5:IntKind.i64.wrap (T:Int) = (T:Int):=IntWalk.i64_in _ (by omega)
         have i3:(3:Int) <= 3 + (S[2].toNat:Int):=by omega
         have i4:(3:Int) + (S[2].toNat:Int) <= (S.size:Int):=by omega
         clear hT hTi hb0 hb1 HG
         go_wp2_with fail
         refine (c2.calls) ?_
         go_wp2_with (at_builtin; refine app_own_k elemA rfl _ _ (by rfl) w wr _ k _ (by rfl) HW.out.1 HS.out #[.int .i64 (T:Int),.string (S.extract 3 (3 + S[2].toNat))] 1 1 (by rfl) rfl (fun u hu => by simp at hu; rcases hu with rfl | rfl <;> rfl) (by unfold maxLen; omega) (by omega) ?_)
         intro v2 W2 ho2 hs2 hk2
         have HW2:=lH (own_a1 ho2 HW.out.2 rfl)
         have HS2:=lH hs2
         clear ho2 hs2 hk2
         go_wp2_with fail
         go_roundw
         case rel => exact ⟨k + 1,_,_,rfl,by rw [ByteArray.size_extract]; omega,HG2,HW2,HS2⟩
         case measure => simp [strLen,ByteArray.size_extract]; omega
theorem decode_mk (t:ByteArray) (hm:t.size <= 1000000):MkA 165 #[.string t] (pL (decO t.data.toList)) (pE (decO t.data.toList)):=by
 have c1:=unhex_all t hm
 have hl:=unS_le t.data.toList
 have htl:t.data.toList.length = t.size:=rfl
 unfold decO
 cases h:Dig.unB t.data.toList with
 | false =>
   rw [h] at c1
   rw [if_neg (by decide)]
   exact dec_odd t _ c1
 | true =>
   rw [h] at c1
   rw [if_pos rfl]
   exact dec_main t _ (by omega) c1 _ rfl _ _ rfl rfl
theorem rdec_odd (t X:ByteArray) (c1:Mak 80 #[.string t] (.tuple #[.string X,.bool false])):MkA 126 #[.string t] [] 5:=by
 intro w
 have HS:=lH (Since.refl w)
 go_enter Tryz.func126,Tryz.ntmps126
 go_wp2_with fail
 refine (c1.calls0) ?_
 intro w1 h1
 replace HS:=lH (HS.out.step (Up.up h1))
 clear h1
 go_wp2_with fail
 go_ret2
 exact ⟨_,rfl,AttsN.nil _ _,HS.out⟩
set_option maxHeartbeats 8000000 in
theorem rdec_main (t X:ByteArray) (hX:X.size <= 1000000) (c1:Mak 80 #[.string t] (.tuple #[.string X,.bool true])) (O:Option (List A2)) (hO:O = prs X.data.toList) (L0:List A2) (E0:Int)
   (hL:L0 = pL O) (hE:E0 = pE O):MkA 126 #[.string t] L0 E0:=by
 intro w
 have HS:=lH (Since.refl w)
 have HO:=lH hO
 have HL:=lH hL
 have HE:=lH hE
 clear hO hL hE
 go_enter Tryz.func126,Tryz.ntmps126
 go_wp2_with fail
 refine (c1.calls0) ?_
 intro w1 h1
 replace HS:=lH (HS.out.step (Up.up h1))
 clear h1
 go_wp2_with fail
 go_loopw [4,6,7] (fun sv lv _ wr => ∃ (k:Nat) (L:List A2) (S:ByteArray),sv = .string S /\ S.size + k <= X.size /\ Hid (goes X.data.toList L S.data.toList) /\ Hid (OwnA w wr lv k L) /\ Hid (Since w wr)) (fun sv _ _ _ => strLen sv)
 case atStart => exact ⟨0,[],X,rfl,by omega,lH (goes_start _),lH ⟨World.ownsRow_nil _ _ _ _,rfl⟩,HS⟩
 case round =>
   clear HS
   obtain ⟨k,L,S,rfl,hSk,HG,HW,HS⟩:=hrel
   by_cases h0:S.size = 0
   · have t0:decide (0 < S.size) = false:=decide_eq_false (by omega)
     have hS0:S.data.toList = []:=List.length_eq_zero_iff.1 h0
     have hO:=HO.out.trans (goes_end (by have:=HG.out; rw [hS0] at this; exact this))
     rw [hO] at HL HE
     have c3:=rcheck_rd L (attE L) rfl
     have HX:=lH HW.out.read
     have HFr:=lH HW.out.fresh
     by_cases hz:attE L = 0
     · obtain rfl:E0 = 0:=HE.out.trans hz
       obtain rfl:L0 = L:=HL.out.trans (p_good L hz)
       rw [hz] at c3
       clear h0 hO HG HW hz HL HE HO hS0
       go_wp2_with fail
       refine (c3.calls0 HX.out) ?_
       intro w5 h5
       replace HX:=lH (HX.out.since (Up.up h5))
       replace HS:=lH (HS.out.step (Up.up h5))
       clear h5
       go_wp2_with fail
       go_ret2
       exact ⟨_,rfl,⟨HX.out,HFr.out⟩,HS.out⟩
     · have t5:(attE L == 0) = false:=beq_eq_false_iff_ne.2 hz
       obtain rfl:L0 = []:=HL.out.trans (p_bad L hz)
       obtain ⟨E,hE⟩:∃ E,attE L = E:=⟨_,rfl⟩
       rw [hE] at c3 t5
       obtain rfl:E0 = E:=HE.out.trans hE
       clear h0 hO HG HW hz HL HE HO hE hS0
       go_wp2_with fail
       refine (c3.calls0 HX.out) ?_
       intro w5 h5
       replace HX:=lH (HX.out.since (Up.up h5))
       replace HS:=lH (HS.out.step (Up.up h5))
       clear h5
       go_wp2_with fail
       go_ret2
       exact ⟨_,rfl,AttsN.nil _ _,HS.out⟩
   · have t0:decide (0 < S.size) = true:=decide_eq_true (by omega)
     by_cases h3:S.size < 3
     · have t1:decide ((S.size:Int) < 3) = true:=decide_eq_true (by omega)
       have hO:=HO.out.trans (goes_none HG.out (prs_short _ (by show 0 < S.size; omega) h3))
       rw [hO] at HL HE
       obtain rfl:E0 = 5:=HE.out
       obtain rfl:L0 = []:=HL.out
       go_wp2_with fail
       go_ret2
       exact ⟨_,rfl,AttsN.nil _ _,HS.out⟩
     · have t1:decide ((S.size:Int) < 3) = false:=decide_eq_false (by omega)
       have i2:2 < S.size:=by omega
       have hb:=S[2].toNat_lt
       obtain ⟨Z,hZ⟩:∃ Z:Nat,Z = 3 + S[2].toNat:=⟨_,rfl⟩
       have ew:(3:Int) + (S[2].toNat:Int) = (Z:Int):=by omega
       by_cases h4:S.size < 3 + S[2].toNat
       · have t2:decide (S.size < Z) = true:=decide_eq_true (by omega)
         have hO:=HO.out.trans (goes_none HG.out (prs_cut _ (by show 3 <= S.size; omega) (by rw [getD_at S 2 i2]; exact h4)))
         rw [hO] at HL HE
         obtain rfl:E0 = 5:=HE.out
         obtain rfl:L0 = []:=HL.out
         clear hZ h4
         go_wp2_with fail
         go_ret2
         exact ⟨_,rfl,AttsN.nil _ _,HS.out⟩
       · have t2:decide (S.size < Z) = false:=decide_eq_false (by omega)
         have HG2:=lH (by have:=goes_at HG.out i2 (by omega); rw [<- hZ] at this; exact this)
         have hb0:=S[0].toNat_lt
         have hb1:=S[1].toNat_lt
         have i0:0 < S.size:=by omega
         have i1:1 < S.size:=by omega
         have j0:(0:Int) < (S.size:Int):=by omega
         have j1:(1:Int) < (S.size:Int):=by omega
         have i3:(3:Int) <= (Z:Int):=by omega
         have i4:(Z:Int) <= (S.size:Int):=by omega
         have i5:(0:Int) <= (Z:Int):=by omega
         clear hZ h4
         obtain ⟨T,hT⟩:∃ T:Nat,T = 256 * S[0].toNat + S[1].toNat:=⟨_,rfl⟩
         have hTi:256 * (S[0].toNat:Int) + (S[1].toNat:Int) = (T:Int):=by omega
         rw [hTi] at HG2
         have y0:IntKind.i64.wrap (S[0].toNat:Int) = (S[0].toNat:Int):=IntWalk.i64_in _ (by omega)
         have y1:IntKind.i64.wrap (S[1].toNat:Int) = (S[1].toNat:Int):=IntWalk.i64_in _ (by omega)
         have y2:IntKind.i64.wrap ((256:Int) * (S[0].toNat:Int)) = (256:Int) * (S[0].toNat:Int):=IntWalk.i64_in _ (by omega)
         have y3:IntKind.i64.wrap ((256:Int) * (S[0].toNat:Int) + (S[1].toNat:Int)) = (T:Int):=by rw [IntWalk.i64_in _ (by omega)]; exact hTi
         clear hTi hT
         have hkk:k <= 1000000:=by omega
         clear HG
         go_wp2_with fail
         go_region_law (first
           | (refine step_own elemA rfl _ _ (by rfl) w _ u6 k _ (by rfl) (row_since HW.out.1 (by first | exact Since.alloc (Since.drew (Since.refl _)) _ | exact Since.drew (Since.alloc (Since.refl _) _) | exact Since.alloc (Since.refl _) _)) (by first | exact (HS.out.drew).alloc _ | exact (HS.out.alloc _).drew | exact HS.out.alloc _) _ 1 _ [.int .i64 (T:Int),.string (S.extract 3 Z)] (by rfl) rfl (by intro j u hu; rcases j with _ | _ | j <;> simp at hu <;> subst hu <;> simp [go_sem] <;> rw [y2,y3]) (by simp [Value.oneCell']) (by decide) (by decide) (by omega) (by decide) ?_; intro v2 W2 ho2 hs2))
         all_goals
           have HW2:=lH (own_a1 (M:=L ++ [((T:Int),S.extract 3 Z)]) ho2 HW.out.2 rfl)
           have HS2:=lH hs2
           clear ho2 hs2
           go_wp2_with fail
           go_roundw
           case rel => exact ⟨k + 1,_,_,rfl,by rw [ByteArray.size_extract]; omega,HG2,lH (by first | exact HW2.out | exact HW2.out.since (Since.drew (Since.refl _))),lH (by first | exact HS2.out | exact Since.drew HS2.out)⟩
           case measure => simp [strLen,ByteArray.size_extract]; omega
theorem rdecode_mk (t:ByteArray) (hm:t.size <= 1000000):MkA 126 #[.string t] (pL (decO t.data.toList)) (pE (decO t.data.toList)):=by
 have c1:=runhex_all t hm
 have hl:=unS_le t.data.toList
 have htl:t.data.toList.length = t.size:=rfl
 unfold decO
 cases h:Dig.unB t.data.toList with
 | false =>
   rw [h] at c1
   rw [if_neg (by decide)]
   exact rdec_odd t _ c1
 | true =>
   rw [h] at c1
   rw [if_pos rfl]
   exact rdec_main t _ (by omega) c1 _ rfl _ _ rfl rfl
end Templ
namespace Templ
open Att
abbrev P2:=ByteArray × ByteArray
def TEN:ByteArray:=⟨#[49,48]⟩
theorem TEN_list:TEN.toList = [49,48]:=by decide +kernel
def oL (l:List A2):List P2:=if attE l = 0 /\ 0 < l.length /\ (encT l).size <= 9000 then [(TEN,encT l)] else []
def oE (l:List A2):Int:=if attE l ≠ 0 then attE l else if 9000 < (encT l).size then 4 else 0
theorem o_bad (l:List A2) (h:attE l ≠ 0):oL l = [] /\ oE l = attE l:=⟨if_neg (fun h2 => h h2.1),if_pos h⟩
theorem o_nil:oL [] = [] /\ oE [] = 0:=⟨if_neg (fun h2 => absurd h2.2.1 (by decide)),by decide +kernel⟩
theorem o_long (l:List A2) (h:attE l = 0) (h2:9000 < (encT l).size):oL l = [] /\ oE l = 4:=⟨if_neg (fun h3 => by omega),by unfold oE; rw [if_neg (fun h3 => h3 h),if_pos h2]⟩
theorem o_good (l:List A2) (h:attE l = 0) (h0:0 < l.length) (h2:(encT l).size <= 9000):oL l = [(TEN,encT l)] /\ oE l = 0:=⟨if_pos ⟨h,h0,h2⟩,by unfold oE; rw [if_neg (fun h3 => h3 h),if_neg (by omega)]⟩
theorem encT_pos (l:List A2) (h:attE l = 0) (h0:0 < l.length):0 < (encT l).size:=by
 unfold encT
 rw [if_pos ((attE_zero l).1 h),size_bs,Dig.hexL_len]
 match l,h0 with
 | p :: l,_ => rw [rawT_cons]; simp only [List.length_append,RefOct.low_len]; omega
theorem encT_nil:encT [] = ⟨#[]⟩:=by decide +kernel
def PostP (w:World) (L:List P2) (e:Int) (x:Ending) (w':World):Prop:=∃ v,x = .returned (.tuple #[v,.int .i64 e]) /\ Opt.OptsS w' v L /\ Below w.heap.size w w'
def MkP (f:Nat) (l:List A2) (L:List P2) (e:Int):Prop:=∀ w x,AttsS w x l -> Calls Tryz.prog f #[x] w (PostP w L e)
theorem MkP.calls0 {f:Nat} {l:List A2} {L:List P2} {e:Int} (h:MkP f l L e) {w:World} {x:Value} (hx:AttsS w x l) {R:Ending -> World -> Prop} (k:∀ v w',Opt.OptsS w' v L -> Since w w' -> R (.returned (.tuple #[v,.int .i64 e])) w'):Calls Tryz.prog f #[x] w R :=
 (h w x hx).mono fun _ _ ⟨v,he,ho,hb⟩ => by subst he; exact k v _ ho hb
theorem lit1 (w:World) (i d:ByteArray) (t:TypeId):Opt.OptsS (w.alloc (.cells #[.string i,.string d] t)) (.slice (some ⟨w.heap.size,0,none⟩) 1 1) [(i,d)] :=
 SlR.lit w 2 1 [.string i,.string d] rfl (by decide) _ rfl t
theorem opt_bad (l:List A2) (X:ByteArray) (E:Int) (h:E ≠ 0) (c1:RdA 138 l (fun x => #[x]) (.tuple #[.string X,.int .i64 E])):MkP 97 l [] E:=by
 intro w x hx
 have t1:(E == 0) = false:=beq_eq_false_iff_ne.2 h
 have t2:(E != 0) = true:=bne_iff_ne.2 h
 have HX:=lH hx
 have HS:=lH (Since.refl w)
 clear hx h
 go_enter Tryz.func97,Tryz.ntmps97
 go_wp2_with fail
 refine (c1.calls0 HX.out) ?_
 intro w1 h1
 replace HX:=lH (HX.out.since (Up.up h1))
 replace HS:=lH (HS.out.step (Up.up h1))
 clear h1
 go_wp2_with fail
 go_ret2
 exact ⟨_,rfl,Opt.OptsS.nil _,HS.out⟩
theorem opt_nil (c1:RdA 138 [] (fun x => #[x]) (.tuple #[.string ⟨#[]⟩,.int .i64 0])):MkP 97 [] [] 0:=by
 intro w x hx
 have HX:=lH hx
 have HS:=lH (Since.refl w)
 obtain ⟨A,c,rfl,_⟩:=hx.empty rfl
 clear hx
 go_enter Tryz.func97,Tryz.ntmps97
 go_wp2_with fail
 refine (c1.calls0 HX.out) ?_
 intro w1 h1
 replace HX:=lH (HX.out.since (Up.up h1))
 replace HS:=lH (HS.out.step (Up.up h1))
 clear h1
 go_wp2_with fail
 go_ret2
 exact ⟨_,rfl,Opt.OptsS.nil _,HS.out⟩
theorem opt_long (l:List A2) (h0:0 < l.length) (X:ByteArray) (h:9000 < X.size) (c1:RdA 138 l (fun x => #[x]) (.tuple #[.string X,.int .i64 0])):MkP 97 l [] 4:=by
 intro w x hx
 have t1:decide ((9000:Int) < (X.size:Int)) = true:=decide_eq_true (by omega)
 have b1:=some_bytes X (by omega)
 have b2:=some_bytes_f X (by omega)
 obtain ⟨A,c,rfl,_⟩:=hx.slice
 obtain ⟨n,hn⟩:∃ n,n = l.length:=⟨_,rfl⟩
 rw [<- hn] at h0 hx ⊢
 have t2:(n == 0) = false:=beq_eq_false_iff_ne.2 (by omega)
 have t3:((n:Int) == 0) = false:=beq_eq_false_iff_ne.2 (by omega)
 have HX:=lH hx
 have HS:=lH (Since.refl w)
 clear hx hn
 go_enter Tryz.func97,Tryz.ntmps97
 go_wp2_with fail
 refine (c1.calls0 HX.out) ?_
 intro w1 h1
 replace HX:=lH (HX.out.since (Up.up h1))
 replace HS:=lH (HS.out.step (Up.up h1))
 clear h1
 go_wp2_with fail
 go_ret2
 exact ⟨_,rfl,Opt.OptsS.nil _,HS.out⟩
theorem opt_good (l:List A2) (h0:0 < l.length) (X:ByteArray) (h:X.size <= 9000) (hp:0 < X.size) (c1:RdA 138 l (fun x => #[x]) (.tuple #[.string X,.int .i64 0])):MkP 97 l [(TEN,X)] 0:=by
 intro w x hx
 have t1:decide ((9000:Int) < (X.size:Int)) = false:=decide_eq_false (by omega)
 have b1:=some_bytes X (by omega)
 have b2:=some_bytes_f X (by omega)
 obtain ⟨A,c,rfl,_⟩:=hx.slice
 obtain ⟨n,hn⟩:∃ n,n = l.length:=⟨_,rfl⟩
 rw [<- hn] at h0 hx ⊢
 have t2:(n == 0) = false:=beq_eq_false_iff_ne.2 (by omega)
 have t3:((n:Int) == 0) = false:=beq_eq_false_iff_ne.2 (by omega)
 have HX:=lH hx
 have HS:=lH (Since.refl w)
 clear hx hn
 go_enter Tryz.func97,Tryz.ntmps97
 go_wp2_with fail
 refine (c1.calls0 HX.out) ?_
 intro w1 h1
 replace HX:=lH (HX.out.since (Up.up h1))
 replace HS:=lH (HS.out.step (Up.up h1))
 clear h1
 go_wp2_with fail
 go_ret2
 exact ⟨_,rfl,lit1 _ TEN X _,HS.out.alloc _⟩
theorem opt_mk (l:List A2) (c1:RdA 138 l (fun x => #[x]) (encV l)):MkP 97 l (oL l) (oE l):=by
 unfold encV at c1
 by_cases h:attE l = 0
 · by_cases h0:l.length = 0
   · obtain rfl:=List.length_eq_zero_iff.1 h0
     rw [o_nil.1,o_nil.2]
     rw [h,encT_nil] at c1
     exact opt_nil c1
   · rw [h] at c1
     by_cases h2:9000 < (encT l).size
     · rw [(o_long l h h2).1,(o_long l h h2).2]
       exact opt_long l (by omega) _ h2 c1
     · rw [(o_good l h (by omega) (by omega)).1,(o_good l h (by omega) (by omega)).2]
       exact opt_good l (by omega) _ (by omega) (encT_pos l h (by omega)) c1
 · rw [(o_bad l h).1,(o_bad l h).2]
   exact opt_bad l _ _ h c1
theorem options_mk (l:List A2):MkP 97 l (oL l) (oE l):=opt_mk l (encode_rd l)
def fO (o:List P2):Option (List A2) × Bool:=match o with
 | [] => (none,true)
 | [p] => if p.1 = TEN /\ 0 < p.2.size then (decO p.2.data.toList,false) else (none,false)
 | _ => (none,false)
def fL (o:List P2):List A2:=if (fO o).2 then [] else pL (fO o).1
def fE (o:List P2):Int:=if (fO o).2 then 0 else pE (fO o).1
def MkF (f:Nat) (o:List P2) (L:List A2) (e:Int):Prop:=∀ w x,Opt.OptsS w x o -> Calls Tryz.prog f #[x] w (PostA w L e)
theorem MkF.calls0 {f:Nat} {o:List P2} {L:List A2} {e:Int} (h:MkF f o L e) {w:World} {x:Value} (hx:Opt.OptsS w x o) {R:Ending -> World -> Prop} (k:∀ v w',AttsS w' v L -> Since w w' -> R (.returned (.tuple #[v,.int .i64 e])) w'):Calls Tryz.prog f #[x] w R :=
 (h w x hx).mono fun _ _ ⟨v,he,ho,hb⟩ => by subst he; exact k v _ ho.1 hb
theorem MkF.calls1 {f:Nat} {o:List P2} {L:List A2} {e:Int} (h:MkF f o L e) {w:World} {x:Value} (hx:Opt.OptsS w x o) {R:Ending -> World -> Prop} (k:∀ v w',AttsN w w' v L -> Since w w' -> R (.returned (.tuple #[v,.int .i64 e])) w'):Calls Tryz.prog f #[x] w R :=
 (h w x hx).mono fun _ _ ⟨v,he,ho,hb⟩ => by subst he; exact k v _ ho hb
theorem from_nil:MkF 117 [] [] 0:=by
 intro w x hx
 obtain ⟨A,c,rfl,_⟩:=hx.empty rfl
 clear hx
 go_enter Tryz.func117,Tryz.ntmps117
 go_wp2_with fail
 go_ret2
 exact ⟨_,rfl,AttsN.nil _ _,Since.refl w⟩
theorem from_many (o:List P2) (h:1 < o.length):MkF 117 o [] 5:=by
 intro w x hx
 obtain ⟨A,c,rfl,_⟩:=hx.slice
 obtain ⟨n,hn⟩:∃ n,n = o.length:=⟨_,rfl⟩
 rw [<- hn] at h ⊢
 have t1:((n:Int) == 0) = false:=beq_eq_false_iff_ne.2 (by omega)
 have t2:decide ((1:Int) < (n:Int)) = true:=decide_eq_true (by omega)
 have t3:(n == 0) = false:=beq_eq_false_iff_ne.2 (by omega)
 clear hx hn
 go_enter Tryz.func117,Tryz.ntmps117
 go_wp2_with fail
 go_ret2
 exact ⟨_,rfl,AttsN.nil _ _,Since.refl w⟩
theorem from_one (i d:ByteArray) (L:List A2) (E:Int) (hL:i ≠ TEN ∨ d.size = 0 -> L = [] /\ E = 5) (c1:i = TEN -> 0 < d.size -> MkA 165 #[.string d] L E):MkF 117 [(i,d)] L E:=by
 intro w x hx
 obtain ⟨b,o,c,rfl,h1,h2,h3,h4⟩:=hx.form (show 0 < 1 by decide)
 obtain ⟨m0,m1⟩:=h4 0 (i,d) rfl
 replace m0:w.cell? ⟨b,o,none⟩ = some (.string i):=by rw [Nat.zero_mul,Nat.add_zero] at m0; exact m0
 replace m1:w.cell? ⟨b,o + 1,none⟩ = some (.string d):=by rw [Nat.zero_mul,Nat.add_zero] at m1; exact m1
 have HS:=lH (Since.refl w)
 clear hx h4
 show Calls Tryz.prog _ #[.slice (some ⟨b,o,none⟩) 1 c] w _
 by_cases hi:i = TEN
 · have t1:(i.toList == [49,48]) = true:=by rw [<- TEN_list]; exact str_eq_t hi
   by_cases hd:d.size = 0
   · obtain rfl:d = ⟨#[]⟩:=by apply ba_ext; exact List.length_eq_zero_iff.1 hd
     obtain ⟨rfl,rfl⟩:=hL (Or.inr rfl)
     clear hL c1 hi
     go_enter Tryz.func117,Tryz.ntmps117
     go_wp2_with fail
     go_ret2
     exact ⟨_,rfl,AttsN.nil _ _,Since.refl w⟩
   · have b1:=some_bytes d (by omega)
     have b2:=some_bytes_f d (by omega)
     have c2:=c1 hi (by omega)
     clear hL c1 hi hd
     go_enter Tryz.func117,Tryz.ntmps117
     go_wp2_with fail
     refine c2.calls1 ?_
     intro v w1 hv h1
     go_wp2_with fail
     go_ret2
     exact ⟨_,rfl,hv,h1⟩
 · have t1:(i.toList == [49,48]) = false:=by rw [<- TEN_list]; exact str_ne_f hi
   obtain ⟨rfl,rfl⟩:=hL (Or.inl hi)
   clear hL c1 hi
   go_enter Tryz.func117,Tryz.ntmps117
   go_wp2_with fail
   go_ret2
   exact ⟨_,rfl,AttsN.nil _ _,Since.refl w⟩
theorem from_mk (o:List P2) (h:∀ p ∈ o,p.2.size <= 1000000) (cD:∀ t:ByteArray,t.size <= 1000000 -> MkA 165 #[.string t] (pL (decO t.data.toList)) (pE (decO t.data.toList))):MkF 117 o (fL o) (fE o):=by
 match o,h with
 | [],_ => exact from_nil
 | [(i,d)],h =>
   refine from_one i d _ _ (fun hn => ?_) (fun hi hd => ?_)
   · have e:fO [(i,d)] = (none,false):=if_neg (fun h2 => by rcases hn with h3 | h3; exact h3 h2.1; exact absurd h2.2 (by show ¬ 0 < d.size; omega))
     unfold fL fE
     rw [e]; exact ⟨rfl,rfl⟩
   · have e:fO [(i,d)] = (decO d.data.toList,false):=if_pos ⟨hi,hd⟩
     unfold fL fE
     rw [e]
     exact cD d (h (i,d) List.mem_cons_self)
 | p :: q :: o,_ => exact from_many _ (by simp)
theorem rfrom_nil:MkF 79 [] [] 0:=by
 intro w x hx
 obtain ⟨A,c,rfl,_⟩:=hx.empty rfl
 clear hx
 go_enter Tryz.func79,Tryz.ntmps79
 go_wp2_with fail
 go_ret2
 exact ⟨_,rfl,AttsN.nil _ _,Since.refl w⟩
theorem rfrom_many (o:List P2) (h:1 < o.length):MkF 79 o [] 5:=by
 intro w x hx
 obtain ⟨A,c,rfl,_⟩:=hx.slice
 obtain ⟨n,hn⟩:∃ n,n = o.length:=⟨_,rfl⟩
 rw [<- hn] at h ⊢
 have t1:((n:Int) == 0) = false:=beq_eq_false_iff_ne.2 (by omega)
 have t2:decide ((1:Int) < (n:Int)) = true:=decide_eq_true (by omega)
 have t3:(n == 0) = false:=beq_eq_false_iff_ne.2 (by omega)
 clear hx hn
 go_enter Tryz.func79,Tryz.ntmps79
 go_wp2_with fail
 go_ret2
 exact ⟨_,rfl,AttsN.nil _ _,Since.refl w⟩
theorem rfrom_one (i d:ByteArray) (L:List A2) (E:Int) (hL:i ≠ TEN ∨ d.size = 0 -> L = [] /\ E = 5) (c1:i = TEN -> 0 < d.size -> MkA 126 #[.string d] L E):MkF 79 [(i,d)] L E:=by
 intro w x hx
 obtain ⟨b,o,c,rfl,h1,h2,h3,h4⟩:=hx.form (show 0 < 1 by decide)
 obtain ⟨m0,m1⟩:=h4 0 (i,d) rfl
 replace m0:w.cell? ⟨b,o,none⟩ = some (.string i):=by rw [Nat.zero_mul,Nat.add_zero] at m0; exact m0
 replace m1:w.cell? ⟨b,o + 1,none⟩ = some (.string d):=by rw [Nat.zero_mul,Nat.add_zero] at m1; exact m1
 have HS:=lH (Since.refl w)
 clear hx h4
 show Calls Tryz.prog _ #[.slice (some ⟨b,o,none⟩) 1 c] w _
 by_cases hi:i = TEN
 · have t1:(i.toList == [49,48]) = true:=by rw [<- TEN_list]; exact str_eq_t hi
   by_cases hd:d.size = 0
   · obtain rfl:d = ⟨#[]⟩:=by apply ba_ext; exact List.length_eq_zero_iff.1 hd
     obtain ⟨rfl,rfl⟩:=hL (Or.inr rfl)
     clear hL c1 hi
     go_enter Tryz.func79,Tryz.ntmps79
     go_wp2_with fail
     go_ret2
     exact ⟨_,rfl,AttsN.nil _ _,Since.refl w⟩
   · have b1:=some_bytes d (by omega)
     have b2:=some_bytes_f d (by omega)
     have c2:=c1 hi (by omega)
     clear hL c1 hi hd
     go_enter Tryz.func79,Tryz.ntmps79
     go_wp2_with fail
     refine c2.calls1 ?_
     intro v w1 hv h1
     go_wp2_with fail
     go_ret2
     exact ⟨_,rfl,hv,h1⟩
 · have t1:(i.toList == [49,48]) = false:=by rw [<- TEN_list]; exact str_ne_f hi
   obtain ⟨rfl,rfl⟩:=hL (Or.inl hi)
   clear hL c1 hi
   go_enter Tryz.func79,Tryz.ntmps79
   go_wp2_with fail
   go_ret2
   exact ⟨_,rfl,AttsN.nil _ _,Since.refl w⟩
theorem rfrom_mk (o:List P2) (h:∀ p ∈ o,p.2.size <= 1000000) (cD:∀ t:ByteArray,t.size <= 1000000 -> MkA 126 #[.string t] (pL (decO t.data.toList)) (pE (decO t.data.toList))):MkF 79 o (fL o) (fE o):=by
 match o,h with
 | [],_ => exact rfrom_nil
 | [(i,d)],h =>
   refine rfrom_one i d _ _ (fun hn => ?_) (fun hi hd => ?_)
   · have e:fO [(i,d)] = (none,false):=if_neg (fun h2 => by rcases hn with h3 | h3; exact h3 h2.1; exact absurd h2.2 (by show ¬ 0 < d.size; omega))
     unfold fL fE
     rw [e]; exact ⟨rfl,rfl⟩
   · have e:fO [(i,d)] = (decO d.data.toList,false):=if_pos ⟨hi,hd⟩
     unfold fL fE
     rw [e]
     exact cD d (h (i,d) List.mem_cons_self)
 | p :: q :: o,_ => exact rfrom_many _ (by simp)
end Templ
end Go.Proofs.YtddlaafpianjbaaGreatDoor
namespace Go.Proofs.YtddlaafpianjbaaGreatDoor
open Go.RowKit Go.Deep
namespace Templ
open Att
end Templ
end Go.Proofs.YtddlaafpianjbaaGreatDoor
namespace Go.Proofs.YtddlaafpianjbaaGreatDoor
open Go.RowKit
namespace Templ
open Att
theorem unB_hex (l:List UInt8):Dig.unB (Dig.hexL l) = true:=by
 unfold Dig.unB
 rw [Dig.hexL_len,show 2 * l.length / 2 = l.length by omega,Dig.ok_hex,decide_eq_true (by omega)]; rfl
theorem unS_hex (l:List UInt8):(Dig.unS (Dig.hexL l)).data.toList = l:=by
 unfold Dig.unS
 rw [if_pos (unB_hex l),Dig.hexL_len,show 2 * l.length / 2 = l.length by omega,bs_nums,list_bs,Dig.pair_hex]
theorem hex_unS (t:List UInt8) (h:Dig.unB t = true):Dig.hexL (Dig.unS t).data.toList = t:=by
 have h2:=h
 unfold Dig.unB at h2
 rw [Bool.and_eq_true] at h2
 have h3:=of_decide_eq_true h2.1
 unfold Dig.unS
 rw [if_pos h,bs_nums,list_bs]
 exact Dig.hex_pair t (t.length / 2) (by omega) h2.2
theorem dec_enc (l:List A2) (h:attE l = 0):decO (encT l).data.toList = some l:=by
 have hok:=(attE_zero l).1 h
 unfold encT decO
 rw [if_pos hok,list_bs,if_pos (unB_hex _),unS_hex]
 exact prs_raw l (attOk_all l hok).2
theorem enc_dec (t:ByteArray) (L:List A2) (h:decO t.data.toList = some L) (h2:attE L = 0):encT L = t:=by
 unfold decO at h
 split at h
 · rename_i hb
   have hr:=raw_prs _ L h
   unfold encT
   rw [if_pos ((attE_zero L).1 h2),hr,hex_unS _ hb,bs_list]
 · cases h
theorem encT_size (l:List A2):(encT l).size <= 20000:=by
 unfold encT
 split
 · rename_i h
   obtain ⟨h1,h2⟩:=attOk_all l h
   have:=rawT_len l (fun p hp => (h2 p hp).2.2)
   rw [size_bs,Dig.hexL_len]; omega
 · exact Nat.zero_le _
theorem from_opt (l:List A2) (h:oE l = 0):fL (oL l) = l /\ fE (oL l) = 0:=by
 unfold oE at h
 by_cases hE:attE l = 0
 · rw [if_neg (fun h2 => h2 hE)] at h
   by_cases h9:9000 < (encT l).size
   · rw [if_pos h9] at h; cases h
   · by_cases h0:l.length = 0
     · obtain rfl:=List.length_eq_zero_iff.1 h0
       rw [o_nil.1]; exact ⟨rfl,rfl⟩
     · rw [(o_good l hE (by omega) (by omega)).1]
       have e:fO [(TEN,encT l)] = (some l,false):=by
         have hp:=encT_pos l hE (by omega)
         show (if TEN = TEN /\ 0 < (encT l).size then (decO (encT l).data.toList,false) else (none,false)) = _
         rw [if_pos ⟨rfl,hp⟩,dec_enc l hE]
       unfold fL fE
       rw [e]
       exact ⟨p_good l hE,hE⟩
 · rw [if_pos hE] at h; exact absurd h hE
end Templ
end Go.Proofs.YtddlaafpianjbaaGreatDoor
