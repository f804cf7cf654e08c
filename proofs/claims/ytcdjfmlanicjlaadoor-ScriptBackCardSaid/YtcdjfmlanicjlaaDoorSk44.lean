import Derived.Test.YtcdjfmlanicjlaaDoorSk40
import Derived.Test.YtcdjfmlanicjlaaDoorSk43
import Derived.Test.YtcdjfmlanicjlaaDoorSk17
set_option maxRecDepth 100000
namespace Go.Proofs.YtcdjfmlanicjlaaDoor
open Go.RowKit
namespace Rcd
open Att Kind Rec
theorem unB_hex (l:List UInt8):Dig.unB (Dig.hexL l) = true:=by
 unfold Dig.unB
 rw [Dig.hexL_len,show 2 * l.length / 2 = l.length by omega,Dig.ok_hex,decide_eq_true (by omega)]; rfl
theorem unS_hex (l:List UInt8):(Dig.unS (Dig.hexL l)).data.toList = l:=by
 unfold Dig.unS
 rw [if_pos (unB_hex l),Dig.hexL_len,show 2 * l.length / 2 = l.length by omega,bs_nums,list_bs,Dig.pair_hex]
abbrev hx (s:ByteArray):List UInt8:=Dig.hexL s.data.toList
def attW (a:A2):List UInt8:=Dig.numS a.1 ++ 61 :: hx a.2
def headW (u m v e:ByteArray):List UInt8:=64 :: Sp.joinC 44 [hx u,hx m,hx v,hx e]
def bareB (u m v e:ByteArray):Bool:=decide (u.toList = []) && decide (m.toList = []) && decide (v.toList = []) && decide (e.toList = [])
def wordsW (K:Int) (k:ByteArray) (L:List A2) (u m v e:ByteArray):List (List UInt8):=(rowOf K).1 :: hx k :: (L.map attW ++ if bareB u m v e = true then [] else [headW u m v e])
def textV (K:Int) (k:ByteArray) (L:List A2) (u m v e:ByteArray):ByteArray:=if recE K k L = 0 then bs (Sp.joinC 32 (wordsW K k L u m v e)) else ⟨#[]⟩
theorem sign_in:∀ d:Nat,d < 16 -> (48 <= (Dig.sign d).toNat /\ (Dig.sign d).toNat <= 57) ∨ (65 <= (Dig.sign d).toNat /\ (Dig.sign d).toNat <= 70):=by decide
theorem hex_in (l:List UInt8):∀ x ∈ Dig.hexL l,(48 <= x.toNat /\ x.toNat <= 57) ∨ (65 <= x.toNat /\ x.toNat <= 70):=by
 intro x hx
 unfold Dig.hexL at hx
 obtain ⟨c,-,hc⟩:=List.mem_flatMap.1 hx
 have h1:c.toNat < 256:=c.toNat_lt
 simp only [List.mem_cons,List.not_mem_nil,or_false] at hc
 rcases hc with rfl | rfl
 · exact sign_in _ (by omega)
 · exact sign_in _ (by omega)
theorem free_of {c:UInt8} {l:List UInt8} {P:UInt8 -> Prop} (h:∀ x ∈ l,P x) (hc:¬ P c):c ∉ l:=fun h9 => hc (h c h9)
theorem hex_32 (s:ByteArray):(32:UInt8) ∉ hx s:=free_of (hex_in _) (by decide)
def unH (w:List UInt8):Option ByteArray:=if Dig.unB w = true then some (Dig.unS w) else none
def unN (w:List UInt8):Option Int:=if w.length <= 20 /\ Dig.numS (Dig.unV w) = w then some (Dig.unV w) else none
theorem digs_len (f:Nat):∀ M:Nat,(Dig.digs f M).length <= f:=by
 induction f with
 | zero => intro M; exact Nat.le_refl _
 | succ f ih =>
   intro M
   rw [Dig.digs]
   split
   · show 1 <= f + 1; omega
   · rw [List.length_append]
     have:=ih (M / 10)
     show _ + 1 <= f + 1
     omega
def namedF:List Row -> Int -> List UInt8 -> Int
 | [],_,_ => 0
 | r :: l,i,w => if r.1 = w then i else namedF l (i + 1) w
def namedV (w:List UInt8):Int:=namedF rows 1 w
theorem name_free_all:∀ i:Nat,i < 11 -> (rowOf ((i:Int) + 1)).1.contains 32 = false /\ (rowOf ((i:Int) + 1)).1 ≠ []:=by decide +kernel
theorem rec_kind {K:Int} {k:ByteArray} {L:List A2} (h:recE K k L = 0):(1 <= K /\ K <= 11) /\ chkE (rowOf K) k.data.toList = 0 /\ attOk L = true:=by
 unfold recE at h
 by_cases h1:chkE (rowOf K) k.data.toList = 0
 · rw [if_neg (by omega)] at h
   refine ⟨?_,h1,(attE_zero L).1 h⟩
   rcases Classical.em (1 <= K /\ K <= 11) with h2 | h2
   · exact h2
   · rw [rowOf_out K (by omega)] at h1
     exact absurd h1 (by unfold chkE noneR; simp)
 · rw [if_pos h1] at h
   exact absurd h h1
def attP (w:List UInt8):Option A2:=match Sp.pcs 61 w with
 | a :: b :: r => match unN a,unH (Sp.joinC 61 (b :: r)) with
   | some t,some v => some (t,v)
   | _,_ => none
 | _ => none
def headP (t:List UInt8):Option (ByteArray × ByteArray × ByteArray × ByteArray):=match Sp.splN 44 5 t with
 | [a,b,c,d] => match unH a,unH b,unH c,unH d with
   | some u,some m,some v,some e => some (u,m,v,e)
   | _,_,_,_ => none
 | _ => none
end Rcd
namespace Rcd
open Att Kind Rec
def attsP:List (List UInt8) -> Option (List A2)
 | [] => some []
 | w :: ws => match attP w with
   | none => none
   | some a => match attsP ws with
     | none => none
     | some L => some (a :: L)
abbrev Cd:=Int × ByteArray × List A2 × (ByteArray × ByteArray × ByteArray × ByteArray)
def noH:ByteArray × ByteArray × ByteArray × ByteArray:=(⟨#[]⟩,⟨#[]⟩,⟨#[]⟩,⟨#[]⟩)
def candW:List (List UInt8) -> Option Cd
 | w0 :: w1 :: ws => match unH w1 with
   | none => none
   | some k => if ((w0 :: w1 :: ws).getLastD []).head? = some 64 then
       match headP ((w0 :: w1 :: ws).getLastD []).tail with
       | none => none
       | some h => match attsP ws.dropLast with
         | none => none
         | some L => some (namedV w0,k,L,h)
     else match attsP ws with
       | none => none
       | some L => some (namedV w0,k,L,noH)
 | _ => none
def candP (t:List UInt8):Option Cd:=candW (Sp.splN 32 36 t)
end Rcd
namespace Tree
open Tlv Strs Rw
end Tree
namespace Tree
open Tlv Strs Rw
theorem own_lone {W':World} {B g:Nat} {t:TypeId} {C:List Value} (hb:B <= g) (hg:W'.heap[g]? = some (.cells C.toArray t (0,0))):(RwL.lone t g C).own W' B :=
 ⟨by simp [RwL.lone],.inr ⟨g,1,C.toArray,rfl,hb,hg,Nat.le_refl _,by decide,by simp [RwL.lone],by simp [RwL.lone]⟩⟩
end Tree
namespace Tree
open Tlv Strs Rw
end Tree
namespace Tree
open Tlv Strs Rw
end Tree
namespace Tlv
open Span Flt Rw
def pcsF (s:ByteArray):Nat -> Nat -> Except (Nat × Nat) (List ByteArray)
 | 0,p => .error (5,p)
 | f + 1,p => if s.size <= p then .ok [] else
   match Head.dec (s.extract p s.size).data.toList with
   | (h,k,x) => if x ≠ 0 then .error (x,p) else if s.size - p < k + h.n then .error (5,p) else
     match pcsF s f (p + (k + h.n)) with
     | .error y => .error y
     | .ok l => .ok (s.extract p (p + (k + h.n)) :: l)
def pcsV (s:ByteArray):Nat × Nat × List ByteArray :=
 if 65535 < s.size then (4,0,[]) else
 match pcsF s (s.size + 1) 0 with
 | .error (c,p) => (c,p,[])
 | .ok l => (0,0,l)
end Tlv
end Go.Proofs.YtcdjfmlanicjlaaDoor
namespace Go.Proofs.YtcdjfmlanicjlaaDoor
namespace Tlv
open F
end Tlv
end Go.Proofs.YtcdjfmlanicjlaaDoor
