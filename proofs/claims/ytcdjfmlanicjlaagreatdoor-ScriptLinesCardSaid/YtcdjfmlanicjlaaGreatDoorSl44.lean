import Derived.Test.YtcdjfmlanicjlaaGreatDoorSl40
import Derived.Test.YtcdjfmlanicjlaaGreatDoorSl43
import Derived.Test.YtcdjfmlanicjlaaGreatDoorSl17
set_option maxRecDepth 100000
namespace Go.Proofs.YtcdjfmlanicjlaaGreatDoor
open Go.RowKit
namespace Rcd
open Att Kind Rec
theorem unB_hex (l:List UInt8):Dig.unB (Dig.hexL l) = true:=by
 unfold Dig.unB
 rw [Dig.hexL_len,show 2 * l.length / 2 = l.length by omega,Dig.ok_hex,decide_eq_true (by omega)]; rfl
theorem unS_hex (l:List UInt8):(Dig.unS (Dig.hexL l)).data.toList = l:=by
 unfold Dig.unS
 rw [if_pos (unB_hex l),Dig.hexL_len,show 2 * l.length / 2 = l.length by omega,bs_nums,list_bs,Dig.pair_hex]
abbrev hx (s:ByteArray):List UInt8:=Dig.hexL s.data.toList
def attW (a:A2):List UInt8:=Dig.numS a.1 ++ 61 :: hx a.2
def headW (u m v e:ByteArray):List UInt8:=64 :: Sp.joinC 44 [hx u,hx m,hx v,hx e]
def bareB (u m v e:ByteArray):Bool:=decide (u.toList = []) && decide (m.toList = []) && decide (v.toList = []) && decide (e.toList = [])
def wordsW (K:Int) (k:ByteArray) (L:List A2) (u m v e:ByteArray):List (List UInt8):=(rowOf K).1 :: hx k :: (L.map attW ++ if bareB u m v e = true then [] else [headW u m v e])
def textV (K:Int) (k:ByteArray) (L:List A2) (u m v e:ByteArray):ByteArray:=if recE K k L = 0 then bs (Sp.joinC 32 (wordsW K k L u m v e)) else ⟨#[]⟩
theorem sign_in:∀ d:Nat,d < 16 -> (48 <= (Dig.sign d).toNat /\ (Dig.sign d).toNat <= 57) ∨ (65 <= (Dig.sign d).toNat /\ (Dig.sign d).toNat <= 70):=by decide
theorem hex_in (l:List UInt8):∀ x ∈ Dig.hexL l,(48 <= x.toNat /\ x.toNat <= 57) ∨ (65 <= x.toNat /\ x.toNat <= 70):=by
 intro x hx
 unfold Dig.hexL at hx
 obtain ⟨c,-,hc⟩:=List.mem_flatMap.1 hx
 have h1:c.toNat < 256:=c.toNat_lt
 simp only [List.mem_cons,List.not_mem_nil,or_false] at hc
 rcases hc with rfl | rfl
 · exact sign_in _ (by omega)
 · exact sign_in _ (by omega)
theorem digs_in (f:Nat):∀ M:Nat,∀ x ∈ Dig.digs f M,48 <= x.toNat /\ x.toNat <= 57:=by
 induction f with
 | zero => intro M x h; cases h
 | succ f ih =>
   intro M x h
   rw [Dig.digs] at h
   have key:∀ d:Nat,d < 10 -> 48 <= (UInt8.ofNat (48 + d)).toNat /\ (UInt8.ofNat (48 + d)).toNat <= 57:=by decide
   split at h
   · rw [List.mem_singleton.1 h]
     exact key M (by omega)
   · rcases List.mem_append.1 h with h | h
     · exact ih _ x h
     · rw [List.mem_singleton.1 h]
       exact key _ (Nat.mod_lt _ (by decide))
theorem num_in (n:Int):∀ x ∈ Dig.numS n,x.toNat = 45 ∨ (48 <= x.toNat /\ x.toNat <= 57):=by
 intro x h
 unfold Dig.numS at h
 split at h
 · rcases List.mem_cons.1 h with rfl | h
   · exact Or.inl rfl
   · exact Or.inr (digs_in _ _ x h)
 · exact Or.inr (digs_in _ _ x h)
theorem free_of {c:UInt8} {l:List UInt8} {P:UInt8 -> Prop} (h:∀ x ∈ l,P x) (hc:¬ P c):c ∉ l:=fun h9 => hc (h c h9)
theorem hex_32 (s:ByteArray):(32:UInt8) ∉ hx s:=free_of (hex_in _) (by decide)
theorem hex_44 (s:ByteArray):(44:UInt8) ∉ hx s:=free_of (hex_in _) (by decide)
theorem hex_61 (s:ByteArray):(61:UInt8) ∉ hx s:=free_of (hex_in _) (by decide)
theorem hex_64 (s:ByteArray):(64:UInt8) ∉ hx s:=free_of (hex_in _) (by decide)
theorem num_32 (n:Int):(32:UInt8) ∉ Dig.numS n:=free_of (num_in _) (by decide)
theorem num_61 (n:Int):(61:UInt8) ∉ Dig.numS n:=free_of (num_in _) (by decide)
theorem num_64 (n:Int):(64:UInt8) ∉ Dig.numS n:=free_of (num_in _) (by decide)
def unH (w:List UInt8):Option ByteArray:=if Dig.unB w = true then some (Dig.unS w) else none
def unN (w:List UInt8):Option Int:=if w.length <= 20 /\ Dig.numS (Dig.unV w) = w then some (Dig.unV w) else none
theorem unH_hex (s:ByteArray):unH (hx s) = some s:=by
 unfold unH
 rw [if_pos (unB_hex _)]
 exact congrArg some (ba_ext (unS_hex _))
theorem digs_len (f:Nat):∀ M:Nat,(Dig.digs f M).length <= f:=by
 induction f with
 | zero => intro M; exact Nat.le_refl _
 | succ f ih =>
   intro M
   rw [Dig.digs]
   split
   · show 1 <= f + 1; omega
   · rw [List.length_append]
     have:=ih (M / 10)
     show _ + 1 <= f + 1
     omega
theorem digs_short (f:Nat):∀ (g M:Nat),1 <= g -> M < 10 ^ g -> (Dig.digs f M).length <= g:=by
 induction f with
 | zero => intro g M _ _; exact Nat.zero_le _
 | succ f ih =>
   intro g M hg hM
   rw [Dig.digs]
   split
   · exact hg
   · rename_i h10
     rw [List.length_append]
     obtain ⟨g,rfl⟩:∃ q,g = q + 1:=⟨g - 1,by omega⟩
     have h1:1 <= g:=by
       rcases Nat.eq_zero_or_pos g with rfl | h
       · simp at hM
         omega
       · exact h
     have:=ih g (M / 10) h1 (by rw [Nat.pow_succ] at hM; omega)
     show _ + 1 <= g + 1
     omega
theorem unN_num (n:Int) (h:-9223372036854775808 <= n /\ n <= 9223372036854775807):unN (Dig.numS n) = some n:=by
 unfold unN
 rw [Dig.unV_numS n h]
 refine if_pos ⟨?_,rfl⟩
 unfold Dig.numS
 have h1:=digs_short 20 19 n.natAbs (by decide) (by omega)
 split
 · show _ + 1 <= 20
   omega
 · omega
def namedF:List Row -> Int -> List UInt8 -> Int
 | [],_,_ => 0
 | r :: l,i,w => if r.1 = w then i else namedF l (i + 1) w
def namedV (w:List UInt8):Int:=namedF rows 1 w
theorem named_all:∀ i:Nat,i < 11 -> namedV (rowOf ((i:Int) + 1)).1 = (i:Int) + 1:=by decide +kernel
theorem named_row (K:Int) (h:1 <= K /\ K <= 11):namedV (rowOf K).1 = K:=by
 have:=named_all (K - 1).toNat (by omega)
 rw [show (((K - 1).toNat:Nat):Int) + 1 = K by omega] at this
 exact this
theorem name_free_all:∀ i:Nat,i < 11 -> (rowOf ((i:Int) + 1)).1.contains 32 = false /\ (rowOf ((i:Int) + 1)).1 ≠ []:=by decide +kernel
theorem name_free (K:Int) (h:1 <= K /\ K <= 11):(32:UInt8) ∉ (rowOf K).1:=by
 have:=(name_free_all (K - 1).toNat (by omega)).1
 rw [show (((K - 1).toNat:Nat):Int) + 1 = K by omega] at this
 simpa using this
theorem rec_kind {K:Int} {k:ByteArray} {L:List A2} (h:recE K k L = 0):(1 <= K /\ K <= 11) /\ chkE (rowOf K) k.data.toList = 0 /\ attOk L = true:=by
 unfold recE at h
 by_cases h1:chkE (rowOf K) k.data.toList = 0
 · rw [if_neg (by omega)] at h
   refine ⟨?_,h1,(attE_zero L).1 h⟩
   rcases Classical.em (1 <= K /\ K <= 11) with h2 | h2
   · exact h2
   · rw [rowOf_out K (by omega)] at h1
     exact absurd h1 (by unfold chkE noneR; simp)
 · rw [if_pos h1] at h
   exact absurd h h1
def attP (w:List UInt8):Option A2:=match Sp.pcs 61 w with
 | a :: b :: r => match unN a,unH (Sp.joinC 61 (b :: r)) with
   | some t,some v => some (t,v)
   | _,_ => none
 | _ => none
theorem attP_att (a:A2) (h:-9223372036854775808 <= a.1 /\ a.1 <= 9223372036854775807):attP (attW a) = some a:=by
 unfold attP attW
 rw [Sp.pcs_cut 61 _ _ (num_61 a.1),Sp.pcs_one 61 _ (hex_61 a.2)]
 show (match unN (Dig.numS a.1),unH (hx a.2) with
   | some t,some v => some (t,v)
   | _,_ => none) = _
 rw [unN_num a.1 h,unH_hex]
def headP (t:List UInt8):Option (ByteArray × ByteArray × ByteArray × ByteArray):=match Sp.splN 44 5 t with
 | [a,b,c,d] => match unH a,unH b,unH c,unH d with
   | some u,some m,some v,some e => some (u,m,v,e)
   | _,_,_,_ => none
 | _ => none
theorem head_pcs (u m v e:ByteArray):Sp.pcs 44 (Sp.joinC 44 [hx u,hx m,hx v,hx e]) = [hx u,hx m,hx v,hx e]:=Sp.pcs_join 44 _ (List.cons_ne_nil _ _) fun w hw => by
 simp only [List.mem_cons,List.not_mem_nil,or_false] at hw
 rcases hw with rfl | rfl | rfl | rfl <;> exact hex_44 _
theorem headP_head (u m v e:ByteArray):headP (Sp.joinC 44 [hx u,hx m,hx v,hx e]) = some (u,m,v,e):=by
 unfold headP
 rw [Sp.splN_all 44 5 _ (by rw [head_pcs]; show 4 <= 5; omega),head_pcs]
 show (match unH (hx u),unH (hx m),unH (hx v),unH (hx e) with
   | some u,some m,some v,some e => some (u,m,v,e)
   | _,_,_,_ => none) = _
 rw [unH_hex,unH_hex,unH_hex,unH_hex]
end Rcd
namespace Rcd
open Att Kind Rec
def attsP:List (List UInt8) -> Option (List A2)
 | [] => some []
 | w :: ws => match attP w with
   | none => none
   | some a => match attsP ws with
     | none => none
     | some L => some (a :: L)
theorem attsP_atts (L:List A2) (h:∀ a ∈ L,-9223372036854775808 <= a.1 /\ a.1 <= 9223372036854775807):attsP (L.map attW) = some L:=by
 induction L with
 | nil => rfl
 | cons a L ih =>
   rw [List.map_cons,attsP,attP_att a (h a (List.mem_cons_self ..)),ih fun b hb => h b (List.mem_cons_of_mem _ hb)]
abbrev Cd:=Int × ByteArray × List A2 × (ByteArray × ByteArray × ByteArray × ByteArray)
def noH:ByteArray × ByteArray × ByteArray × ByteArray:=(⟨#[]⟩,⟨#[]⟩,⟨#[]⟩,⟨#[]⟩)
def candW:List (List UInt8) -> Option Cd
 | w0 :: w1 :: ws => match unH w1 with
   | none => none
   | some k => if ((w0 :: w1 :: ws).getLastD []).head? = some 64 then
       match headP ((w0 :: w1 :: ws).getLastD []).tail with
       | none => none
       | some h => match attsP ws.dropLast with
         | none => none
         | some L => some (namedV w0,k,L,h)
     else match attsP ws with
       | none => none
       | some L => some (namedV w0,k,L,noH)
 | _ => none
def candP (t:List UInt8):Option Cd:=candW (Sp.splN 32 36 t)
theorem bare_eq {u m v e:ByteArray} (h:bareB u m v e = true):(u,m,v,e) = noH:=by
 unfold bareB at h
 simp only [Bool.and_eq_true,decide_eq_true_eq] at h
 have key:∀ s:ByteArray,s.toList = [] -> s = ⟨#[]⟩:=fun s hs => by
   rw [toList_d] at hs
   exact ba_ext hs
 obtain ⟨⟨⟨h1,h2⟩,h3⟩,h4⟩:=h
 rw [key u h1,key m h2,key v h3,key e h4]
 rfl
theorem head_no {c:UInt8} {l:List UInt8} (h:c ∉ l):l.head? ≠ some c:=by
 cases l with
 | nil => simp
 | cons x l =>
   intro h9
   cases h9
   exact h (List.mem_cons_self ..)
theorem att_head (a:A2):(attW a).head? ≠ some 64:=by
 unfold attW
 cases hn:Dig.numS a.1 with
 | nil => show (some 61:Option UInt8) ≠ some 64; decide
 | cons x l =>
   intro h9
   have h8:x = 64:=by simpa using h9
   exact num_64 a.1 (by rw [hn,h8]; exact List.mem_cons_self ..)
theorem words_free (K:Int) (k:ByteArray) (L:List A2) (u m v e:ByteArray) (hK:1 <= K /\ K <= 11):∀ w ∈ wordsW K k L u m v e,(32:UInt8) ∉ w:=by
 intro w hw
 unfold wordsW at hw
 rcases List.mem_cons.1 hw with rfl | hw
 · exact name_free K hK
 rcases List.mem_cons.1 hw with rfl | hw
 · exact hex_32 k
 rcases List.mem_append.1 hw with hw | hw
 · obtain ⟨a,-,rfl⟩:=List.mem_map.1 hw
   unfold attW
   intro h9
   rcases List.mem_append.1 h9 with h9 | h9
   · exact num_32 _ h9
   · rcases List.mem_cons.1 h9 with h9 | h9
     · exact absurd h9 (by decide)
     · exact hex_32 _ h9
 · split at hw
   · cases hw
   · rw [List.mem_singleton.1 hw]
     unfold headW
     simp only [Sp.joinC,List.mem_cons,List.mem_append,not_or]
     exact ⟨by decide,hex_32 u,by decide,hex_32 m,by decide,hex_32 v,by decide,hex_32 e⟩
theorem words_split (K:Int) (k:ByteArray) (L:List A2) (u m v e:ByteArray) (hK:1 <= K /\ K <= 11):Sp.pcs 32 (Sp.joinC 32 (wordsW K k L u m v e)) = wordsW K k L u m v e :=
 Sp.pcs_join 32 _ (List.cons_ne_nil _ _) (words_free K k L u m v e hK)
theorem tags_in {L:List A2} (h:attOk L = true):∀ a ∈ L,-9223372036854775808 <= a.1 /\ a.1 <= 9223372036854775807:=fun a ha => by
 have h1:=((Atm.attOk_iff L).1 h).2.2 a ha
 have h2:=h1.1
 have h3:=h1.2.1
 omega
theorem candP_text {K:Int} {k:ByteArray} {L:List A2} (u m v e:ByteArray) (h:recE K k L = 0):candP (Sp.joinC 32 (wordsW K k L u m v e)) = some (K,k,L,(u,m,v,e)):=by
 obtain ⟨hK,-,hL⟩:=rec_kind h
 have hl:L.length <= 32:=((Atm.attOk_iff L).1 hL).1
 have hs:=words_split K k L u m v e hK
 have hw:(wordsW K k L u m v e).length <= 36:=by
   unfold wordsW
   rw [List.length_cons,List.length_cons,List.length_append,List.length_map]
   split
   · show L.length + 0 + 1 + 1 <= 36
     omega
   · show L.length + 1 + 1 + 1 <= 36
     omega
 unfold candP
 rw [Sp.splN_all 32 36 _ (by rw [hs]; exact hw),hs]
 unfold wordsW
 by_cases hb:bareB u m v e = true
 · rw [if_pos hb,List.append_nil,candW,unH_hex]
   have hq:¬ ((((rowOf K).1 :: hx k :: L.map attW).getLastD []).head? = some 64):=by
     rcases List.eq_nil_or_concat L with rfl | ⟨l,a,rfl⟩
     · exact head_no (hex_64 k)
     · rw [List.concat_eq_append,List.map_append,List.map_cons,List.map_nil,show (rowOf K).1 :: hx k :: (l.map attW ++ [attW a]) = ((rowOf K).1 :: hx k :: l.map attW) ++ [attW a] from rfl,List.getLastD_concat]
       exact att_head a
   show (if _ then _ else _) = _
   rw [if_neg hq,attsP_atts L (tags_in hL),named_row K hK,bare_eq hb]
 · rw [if_neg hb,candW,unH_hex]
   have hq:((rowOf K).1 :: hx k :: (L.map attW ++ [headW u m v e])).getLastD [] = headW u m v e:=by
     rw [show (rowOf K).1 :: hx k :: (L.map attW ++ [headW u m v e]) = ((rowOf K).1 :: hx k :: L.map attW) ++ [headW u m v e] from rfl,List.getLastD_concat]
   show (if _ then _ else _) = _
   rw [hq,if_pos (show (headW u m v e).head? = some 64 from rfl),List.dropLast_concat]
   show (match headP (Sp.joinC 44 [hx u,hx m,hx v,hx e]) with
       | none => none
       | some h => match attsP (L.map attW) with
         | none => none
         | some L => some (namedV (rowOf K).1,k,L,h)) = _
   rw [headP_head,attsP_atts L (tags_in hL),named_row K hK]
end Rcd
namespace Tree
open Tlv Strs Rw
end Tree
namespace Tree
open Tlv Strs Rw
theorem own_base {W:World} {base base':Nat} {e:TypeId} {k:Nat} {v:Value} {n:Nat} {xs:List Value} (h:W.ownsRow base e k v n xs) (hb:base' <= base):W.ownsRow base' e k v n xs:=by
 obtain ⟨h1,h2⟩:=h
 refine ⟨h1, ?_⟩
 rcases h2 with h2 | ⟨g,cap,cur,hv,hb2,hr⟩
 · exact .inl h2
 · exact .inr ⟨g,cap,cur,hv,Nat.le_trans hb hb2,hr⟩
theorem own_lone {W':World} {B g:Nat} {t:TypeId} {C:List Value} (hb:B <= g) (hg:W'.heap[g]? = some (.cells C.toArray t (0,0))):(RwL.lone t g C).own W' B :=
 ⟨by simp [RwL.lone],.inr ⟨g,1,C.toArray,rfl,hb,hg,Nat.le_refl _,by decide,by simp [RwL.lone],by simp [RwL.lone]⟩⟩
end Tree
namespace Tree
open Tlv Strs Rw
end Tree
namespace Tree
open Tlv Strs Rw
theorem rows_merge {W W':World} {base:Nat} {rs rs':List Row} (h:Rw.Rows W base rs) (hs:Since W W') (h':Rw.Rows W' W.heap.size rs') (hb:base <= W.heap.size):Rw.Rows W' base (rs ++ rs'):=by
 refine ⟨fun x hx => ?_, ?_⟩
 · rcases List.mem_append.1 hx with hx | hx
   · exact (h.since hs).own x hx
   · exact own_base (h'.own x hx) hb
 · rw [List.pairwise_append]
   refine ⟨h.apart,h'.apart,fun a ha b hb g h3 h4 => ?_⟩
   have h5:=(World.ownsRow.lt (h.own a ha) g h3).2
   have h6:=(World.ownsRow.lt (h'.own b hb) g h4).1
   omega
theorem rows_sub {W:World} {base:Nat} {rs rs':List Row} (h:Rw.Rows W base rs) (hs:rs'.Sublist rs):Rw.Rows W base rs':=⟨fun r hr => h.own r (hs.subset hr),h.apart.sublist hs⟩
end Tree
namespace Tlv
open Span Flt Rw
def pcsF (s:ByteArray):Nat -> Nat -> Except (Nat × Nat) (List ByteArray)
 | 0,p => .error (5,p)
 | f + 1,p => if s.size <= p then .ok [] else
   match Head.dec (s.extract p s.size).data.toList with
   | (h,k,x) => if x ≠ 0 then .error (x,p) else if s.size - p < k + h.n then .error (5,p) else
     match pcsF s f (p + (k + h.n)) with
     | .error y => .error y
     | .ok l => .ok (s.extract p (p + (k + h.n)) :: l)
def pcsV (s:ByteArray):Nat × Nat × List ByteArray :=
 if 65535 < s.size then (4,0,[]) else
 match pcsF s (s.size + 1) 0 with
 | .error (c,p) => (c,p,[])
 | .ok l => (0,0,l)
end Tlv
end Go.Proofs.YtcdjfmlanicjlaaGreatDoor
namespace Go.Proofs.YtcdjfmlanicjlaaGreatDoor
namespace Tlv
open F
end Tlv
end Go.Proofs.YtcdjfmlanicjlaaGreatDoor
