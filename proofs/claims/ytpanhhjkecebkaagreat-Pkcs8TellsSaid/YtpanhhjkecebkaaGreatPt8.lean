import Derived.Test.YtpanhhjkecebkaaGreatPt4
import Derived.Laws.CopyOwn
set_option maxRecDepth 100000
namespace Go.Proofs.YtpanhhjkecebkaaGreat
open Go.RowKit
namespace Utf
def ent (l:List UInt8) (i:Nat):Nat:=(l.getD i 0).toNat
def cont (x:Nat):Prop:=128 <= x /\ x <= 191
instance (x:Nat):Decidable (cont x):=by unfold cont; infer_instance
def fold (l:List UInt8) (n:Nat):Nat -> Nat
 | 0 => n
 | k + 1 => 64 * fold l n k + (ent l (k + 1) - 128)
def ptG (l:List UInt8) (n more least:Nat):Nat :=
 if l.length <= more then 0 else if ¬ (∀ i,i < more -> cont (ent l (i + 1))) then 0
 else if fold l n more < least ∨ 1114111 < fold l n more ∨ 55295 < fold l n more /\ fold l n more < 57344 then 0 else more + 1
def ptL (l:List UInt8):Nat :=
 if ent l 0 < 128 then 1
 else if 192 <= ent l 0 /\ ent l 0 < 224 then ptG l (ent l 0 - 192) 1 128
 else if 224 <= ent l 0 /\ ent l 0 < 240 then ptG l (ent l 0 - 224) 2 2048
 else if 240 <= ent l 0 /\ ent l 0 < 248 then ptG l (ent l 0 - 240) 3 65536
 else 0
theorem ent_lt (l:List UInt8) (i:Nat):ent l i < 256:=UInt8.toNat_lt _
theorem all1 (l:List UInt8):(∀ i,i < 1 -> cont (ent l (i + 1))) ↔ cont (ent l 1):=⟨fun h => h 0 (by omega),fun h i hi => by
 obtain rfl:i = 0:=Nat.lt_one_iff.1 hi;exact h⟩
theorem all2 (l:List UInt8):(∀ i,i < 2 -> cont (ent l (i + 1))) ↔ cont (ent l 1) /\ cont (ent l 2):=⟨fun h => ⟨h 0 (by omega),h 1 (by omega)⟩,fun h i hi => by
 rcases (show i = 0 ∨ i = 1 by omega) with rfl | rfl
 · exact h.1
 · exact h.2⟩
theorem all3 (l:List UInt8):(∀ i,i < 3 -> cont (ent l (i + 1))) ↔ cont (ent l 1) /\ cont (ent l 2) /\ cont (ent l 3):=⟨fun h => ⟨h 0 (by omega),h 1 (by omega),h 2 (by omega)⟩,fun h i hi => by
 rcases (show i = 0 ∨ i = 1 ∨ i = 2 by omega) with rfl | rfl | rfl
 · exact h.1
 · exact h.2.1
 · exact h.2.2⟩
theorem fold1 (l:List UInt8) (n:Nat):fold l n 1 = 64 * n + (ent l 1 - 128):=rfl
theorem fold2 (l:List UInt8) (n:Nat):fold l n 2 = 64 * (64 * n + (ent l 1 - 128)) + (ent l 2 - 128):=rfl
theorem fold3 (l:List UInt8) (n:Nat):fold l n 3 = 64 * (64 * (64 * n + (ent l 1 - 128)) + (ent l 2 - 128)) + (ent l 3 - 128):=rfl
theorem get_ent (s:ByteArray) (p k:Nat):(s.get! (p + k)).toNat = ent (s.data.toList.drop p) k:=by
 unfold ent;rw [List.getD_eq_getElem?_getD,List.getElem?_drop]
 by_cases h:p + k < s.size
 · have h2:p + k < s.data.toList.length:=h;rw [List.getElem?_eq_getElem h2]
   show (s.data[p + k]!).toNat = (s.data[p + k]'h).toNat
   rw [getElem!_pos s.data (p + k) h]
 · have h2:¬ p + k < s.data.toList.length:=h;rw [List.getElem?_eq_none (by omega)]
   show (s.data[p + k]!).toNat = 0
   rw [getElem!_neg s.data (p + k) h];rfl
theorem val_iff (c:Nat):Utf8.valid (c:Int) = true ↔ c < 55296 ∨ 57344 <= c /\ c <= 1114111:=by
 unfold Utf8.valid;simp only [Bool.or_eq_true,Bool.and_eq_true,decide_eq_true_eq];omega
def dcd (x0 x1 x2 x3 n:Nat):Nat × Nat :=
 if x0 < 128 then (x0,1)
 else if x0 / 32 = 6 /\ 1 < n /\ x1 / 64 = 2 then (if 128 <= x0 % 32 * 64 + x1 % 64 then (x0 % 32 * 64 + x1 % 64,2) else (65533,1))
 else if x0 / 16 = 14 /\ (1 < n /\ x1 / 64 = 2) /\ 2 < n /\ x2 / 64 = 2 then
   (if 2048 <= x0 % 16 * 4096 + x1 % 64 * 64 + x2 % 64 /\ (x0 % 16 * 4096 + x1 % 64 * 64 + x2 % 64 < 55296 ∨ 57344 <= x0 % 16 * 4096 + x1 % 64 * 64 + x2 % 64 /\ x0 % 16 * 4096 + x1 % 64 * 64 + x2 % 64 <= 1114111) then (x0 % 16 * 4096 + x1 % 64 * 64 + x2 % 64,3) else (65533,1))
 else if x0 / 8 = 30 /\ (1 < n /\ x1 / 64 = 2) /\ (2 < n /\ x2 / 64 = 2) /\ 3 < n /\ x3 / 64 = 2 then
   (if 65536 <= x0 % 8 * 262144 + x1 % 64 * 4096 + x2 % 64 * 64 + x3 % 64 /\ (x0 % 8 * 262144 + x1 % 64 * 4096 + x2 % 64 * 64 + x3 % 64 < 55296 ∨ 57344 <= x0 % 8 * 262144 + x1 % 64 * 4096 + x2 % 64 * 64 + x3 % 64 /\ x0 % 8 * 262144 + x1 % 64 * 4096 + x2 % 64 * 64 + x3 % 64 <= 1114111) then (x0 % 8 * 262144 + x1 % 64 * 4096 + x2 % 64 * 64 + x3 % 64,4) else (65533,1))
 else (65533,1)
theorem dcd_eq (s:ByteArray) (p:Nat) (l:List UInt8) (hl:l = s.data.toList.drop p):Utf8.decode s p = dcd (ent l 0) (ent l 1) (ent l 2) (ent l 3) l.length:=by
 have hlen:l.length = s.size - p:=by rw [hl,List.length_drop]; rfl
 have e:∀ k,(s.get! (p + k)).toNat = ent l k:=fun k => by rw [hl]; exact get_ent s p k
 have c:∀ k,p + k < s.size ↔ k < l.length:=fun k => by omega
 simp only [Utf8.decode,e,c];generalize ent l 0 = x0;generalize ent l 1 = x1;generalize ent l 2 = x2;generalize ent l 3 = x3;generalize l.length = n;unfold dcd;refine ite_congr rfl (fun _ => rfl) (fun _ => ?_);refine ite_congr (propext (by simp)) (fun _ => ?_) (fun _ => ?_)
 · exact ite_congr rfl (fun _ => rfl) (fun _ => rfl)
 refine ite_congr (propext (by simp [and_assoc])) (fun _ => ?_) (fun _ => ?_)
 · refine ite_congr (propext ?_) (fun _ => rfl) (fun _ => rfl);rw [Bool.and_eq_true,val_iff,decide_eq_true_eq]
 refine ite_congr (propext (by simp [and_assoc])) (fun _ => ?_) (fun _ => rfl);refine ite_congr (propext ?_) (fun _ => rfl) (fun _ => rfl);rw [Bool.and_eq_true,val_iff,decide_eq_true_eq]
theorem dec_pt (s:ByteArray) (p:Nat) (_h:p < s.size) (l:List UInt8) (hl:l = s.data.toList.drop p) :
   if ptL l = 0 then Utf8.decode s p = (65533,1) else (Utf8.decode s p).2 = ptL l /\ (((Utf8.decode s p).1 = 65533 ↔ ent l 0 = 239 /\ ent l 1 = 191 /\ ent l 2 = 189) /\ (ent l 0 = 239 /\ ent l 1 = 191 /\ ent l 2 = 189 -> 3 <= l.length)):=by
 have hlen:l.length = s.size - p:=by rw [hl,List.length_drop]; rfl
 have h0:=ent_lt l 0; have h1:=ent_lt l 1; have h2:=ent_lt l 2; have h3:=ent_lt l 3;rw [dcd_eq s p l hl];unfold ptL ptG dcd;rw [fold1,fold2,fold3];simp only [all1,all2,all3];unfold cont;clear hl;generalize ent l 0 = x0 at h0 ⊢;generalize ent l 1 = x1 at h1 ⊢;generalize ent l 2 = x2 at h2 ⊢;generalize ent l 3 = x3 at h3 ⊢
 by_cases a0:x0 < 128
 · rw [if_pos a0,if_pos a0,if_neg (show ¬ (1 = 0) by omega)];exact ⟨rfl,⟨⟨fun h:x0 = 65533 => absurd h (by omega),fun h => absurd h.1 (by omega)⟩,fun h => absurd h.1 (by omega)⟩⟩
 rw [if_neg a0,if_neg a0]
 by_cases a1:192 <= x0 /\ x0 < 224
 · rw [if_pos a1]
   by_cases b1:l.length <= 1
   · rw [if_pos b1,if_pos rfl,if_neg (show ¬ (x0 / 32 = 6 /\ 1 < l.length /\ x1 / 64 = 2) by omega),if_neg (show ¬ (x0 / 16 = 14 /\ (1 < l.length /\ x1 / 64 = 2) /\ 2 < l.length /\ x2 / 64 = 2) by omega),if_neg (show ¬ (x0 / 8 = 30 /\ (1 < l.length /\ x1 / 64 = 2) /\ (2 < l.length /\ x2 / 64 = 2) /\ 3 < l.length /\ x3 / 64 = 2) by omega)]
   rw [if_neg b1]
   by_cases b2:¬ (128 <= x1 /\ x1 <= 191)
   · rw [if_pos b2,if_pos rfl,if_neg (show ¬ (x0 / 32 = 6 /\ 1 < l.length /\ x1 / 64 = 2) by omega),if_neg (show ¬ (x0 / 16 = 14 /\ (1 < l.length /\ x1 / 64 = 2) /\ 2 < l.length /\ x2 / 64 = 2) by omega),if_neg (show ¬ (x0 / 8 = 30 /\ (1 < l.length /\ x1 / 64 = 2) /\ (2 < l.length /\ x2 / 64 = 2) /\ 3 < l.length /\ x3 / 64 = 2) by omega)]
   rw [if_neg b2,if_pos (show (x0 / 32 = 6 /\ 1 < l.length /\ x1 / 64 = 2) by omega)];have en:64 * (x0 - 192) + (x1 - 128) = x0 % 32 * 64 + x1 % 64:=by omega
   rw [en];generalize x0 % 32 * 64 + x1 % 64 = n at en ⊢
   by_cases b3:128 <= n
   · rw [if_neg (show ¬ (n < 128 ∨ 1114111 < n ∨ 55295 < n /\ n < 57344) by omega),if_neg (show ¬ (1 + 1 = 0) by omega),if_pos b3];exact ⟨rfl,⟨⟨fun h:n = 65533 => absurd h (by omega),fun h => absurd h.1 (by omega)⟩,fun h => absurd h.1 (by omega)⟩⟩
   · rw [if_pos (show n < 128 ∨ 1114111 < n ∨ 55295 < n /\ n < 57344 by omega),if_pos rfl,if_neg b3]
 rw [if_neg a1]
 by_cases a2:224 <= x0 /\ x0 < 240
 · rw [if_pos a2,if_neg (show ¬ (x0 / 32 = 6 /\ 1 < l.length /\ x1 / 64 = 2) by omega)]
   by_cases b1:l.length <= 2
   · rw [if_pos b1,if_pos rfl,if_neg (show ¬ (x0 / 16 = 14 /\ (1 < l.length /\ x1 / 64 = 2) /\ 2 < l.length /\ x2 / 64 = 2) by omega),if_neg (show ¬ (x0 / 8 = 30 /\ (1 < l.length /\ x1 / 64 = 2) /\ (2 < l.length /\ x2 / 64 = 2) /\ 3 < l.length /\ x3 / 64 = 2) by omega)]
   rw [if_neg b1]
   by_cases b2:¬ ((128 <= x1 /\ x1 <= 191) /\ 128 <= x2 /\ x2 <= 191)
   · rw [if_pos b2,if_pos rfl,if_neg (show ¬ (x0 / 16 = 14 /\ (1 < l.length /\ x1 / 64 = 2) /\ 2 < l.length /\ x2 / 64 = 2) by omega),if_neg (show ¬ (x0 / 8 = 30 /\ (1 < l.length /\ x1 / 64 = 2) /\ (2 < l.length /\ x2 / 64 = 2) /\ 3 < l.length /\ x3 / 64 = 2) by omega)]
   rw [if_neg b2,if_pos (show (x0 / 16 = 14 /\ (1 < l.length /\ x1 / 64 = 2) /\ 2 < l.length /\ x2 / 64 = 2) by omega)];have en:64 * (64 * (x0 - 224) + (x1 - 128)) + (x2 - 128) = x0 % 16 * 4096 + x1 % 64 * 64 + x2 % 64:=by omega
   have en2:x0 % 16 * 4096 + x1 % 64 * 64 + x2 % 64 = 65533 ↔ x0 = 239 /\ x1 = 191 /\ x2 = 189:=by omega
   rw [en];have en3:x0 % 16 * 4096 + x1 % 64 * 64 + x2 % 64 < 65536:=by omega
   generalize x0 % 16 * 4096 + x1 % 64 * 64 + x2 % 64 = n at en en2 en3 ⊢
   by_cases b3:2048 <= n /\ (n < 55296 ∨ 57344 <= n /\ n <= 1114111)
   · rw [if_neg (show ¬ (n < 2048 ∨ 1114111 < n ∨ 55295 < n /\ n < 57344) by omega),if_neg (show ¬ (2 + 1 = 0) by omega),if_pos b3];exact ⟨rfl,⟨en2,fun h => by omega⟩⟩
   · rw [if_pos (show n < 2048 ∨ 1114111 < n ∨ 55295 < n /\ n < 57344 by omega),if_pos rfl,if_neg b3]
 rw [if_neg a2]
 by_cases a3:240 <= x0 /\ x0 < 248
 · rw [if_pos a3,if_neg (show ¬ (x0 / 32 = 6 /\ 1 < l.length /\ x1 / 64 = 2) by omega),if_neg (show ¬ (x0 / 16 = 14 /\ (1 < l.length /\ x1 / 64 = 2) /\ 2 < l.length /\ x2 / 64 = 2) by omega)]
   by_cases b1:l.length <= 3
   · rw [if_pos b1,if_pos rfl,if_neg (show ¬ (x0 / 8 = 30 /\ (1 < l.length /\ x1 / 64 = 2) /\ (2 < l.length /\ x2 / 64 = 2) /\ 3 < l.length /\ x3 / 64 = 2) by omega)]
   rw [if_neg b1]
   by_cases b2:¬ ((128 <= x1 /\ x1 <= 191) /\ (128 <= x2 /\ x2 <= 191) /\ 128 <= x3 /\ x3 <= 191)
   · rw [if_pos b2,if_pos rfl,if_neg (show ¬ (x0 / 8 = 30 /\ (1 < l.length /\ x1 / 64 = 2) /\ (2 < l.length /\ x2 / 64 = 2) /\ 3 < l.length /\ x3 / 64 = 2) by omega)]
   rw [if_neg b2,if_pos (show (x0 / 8 = 30 /\ (1 < l.length /\ x1 / 64 = 2) /\ (2 < l.length /\ x2 / 64 = 2) /\ 3 < l.length /\ x3 / 64 = 2) by omega)];have en:64 * (64 * (64 * (x0 - 240) + (x1 - 128)) + (x2 - 128)) + (x3 - 128) = x0 % 8 * 262144 + x1 % 64 * 4096 + x2 % 64 * 64 + x3 % 64:=by omega
   rw [en];generalize x0 % 8 * 262144 + x1 % 64 * 4096 + x2 % 64 * 64 + x3 % 64 = n at en ⊢
   by_cases b3:65536 <= n /\ (n < 55296 ∨ 57344 <= n /\ n <= 1114111)
   · rw [if_neg (show ¬ (n < 65536 ∨ 1114111 < n ∨ 55295 < n /\ n < 57344) by omega),if_neg (show ¬ (3 + 1 = 0) by omega),if_pos b3];exact ⟨rfl,⟨⟨fun h:n = 65533 => absurd h (by omega),fun h => absurd h.1 (by omega)⟩,fun h => absurd h.1 (by omega)⟩⟩
   · rw [if_pos (show n < 65536 ∨ 1114111 < n ∨ 55295 < n /\ n < 57344 by omega),if_pos rfl,if_neg b3]
 · rw [if_neg a3,if_pos rfl,if_neg (show ¬ (x0 / 32 = 6 /\ 1 < l.length /\ x1 / 64 = 2) by omega),if_neg (show ¬ (x0 / 16 = 14 /\ (1 < l.length /\ x1 / 64 = 2) /\ 2 < l.length /\ x2 / 64 = 2) by omega),if_neg (show ¬ (x0 / 8 = 30 /\ (1 < l.length /\ x1 / 64 = 2) /\ (2 < l.length /\ x2 / 64 = 2) /\ 3 < l.length /\ x3 / 64 = 2) by omega)]
def utfF:Nat -> List UInt8 -> Bool
 | _,[] => true
 | 0,_ => false
 | f + 1,l => ptL l != 0 && utfF f (l.drop (ptL l))
def utfB (l:List UInt8):Bool:=utfF l.length l
theorem pt_len (a:UInt8) (r:List UInt8):ptL (a :: r) <= r.length + 1:=by
 have h:(a :: r).length = r.length + 1:=rfl;unfold ptL ptG
 repeat' split
 all_goals omega
theorem utfF_cons (f:Nat) (a:UInt8) (r:List UInt8):utfF (f + 1) (a :: r) = (ptL (a :: r) != 0 && utfF f ((a :: r).drop (ptL (a :: r)))):=rfl
theorem utfF_any (f:Nat):∀ (g:Nat) (l:List UInt8),l.length <= f -> l.length <= g -> utfF f l = utfF g l:=by
 induction f with
 | zero =>
   intro g l hl _;obtain rfl:=List.eq_nil_of_length_eq_zero (Nat.le_zero.1 hl);cases g <;> rfl
 | succ f ih =>
   intro g l hl hg;cases l with
   | nil => cases g <;> rfl
   | cons a r =>
     cases g with
     | zero => exact absurd hg (by simp)
     | succ g =>
       rw [utfF_cons,utfF_cons]
       by_cases h0:ptL (a :: r) = 0
       · rw [h0]; rfl
       · have hd:((a :: r).drop (ptL (a :: r))).length <= r.length:=by rw [List.length_drop,List.length_cons]; omega
         simp only [List.length_cons] at hl hg;rw [ih g _ (by omega) (by omega)]
theorem utfB_bad (l:List UInt8) (hl:0 < l.length) (h:ptL l = 0):utfB l = false:=by
 cases l with
 | nil => simp at hl
 | cons a r =>
   show utfF (r.length + 1) (a :: r) = false
   rw [utfF_cons,h]; rfl
theorem utfB_step (l:List UInt8) (hl:0 < l.length) (h:ptL l ≠ 0):utfB l = utfB (l.drop (ptL l)):=by
 cases l with
 | nil => simp at hl
 | cons a r =>
   show utfF (r.length + 1) (a :: r) = _
   rw [utfF_cons,bne_iff_ne.2 h,Bool.true_and];unfold utfB;have hd:((a :: r).drop (ptL (a :: r))).length <= r.length:=by rw [List.length_drop,List.length_cons]; omega
   exact utfF_any _ _ _ hd (Nat.le_refl _)
end Utf
end Go.Proofs.YtpanhhjkecebkaaGreat
