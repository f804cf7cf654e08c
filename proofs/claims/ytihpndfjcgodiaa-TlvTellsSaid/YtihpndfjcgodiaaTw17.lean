/- Joined texts. -/
-- PACK: YtihpndfjcgodiaaJoin2 YtihpndfjcgodiaaOct3 YtihpndfjcgodiaaRefOct3 YtihpndfjcgodiaaWholeM
import Derived.Test.YtihpndfjcgodiaaTw9
import Derived.Test.YtihpndfjcgodiaaTw15
import Derived.Test.YtihpndfjcgodiaaTw3
import Derived.Test.YtihpndfjcgodiaaTw1

/- octets.Join of a slice of strings, by what it holds. -/
namespace Go.Proofs.Ytihpndfjcgodiaa
open Go.RowKit
namespace Oct

set_option maxRecDepth 100000 in
set_option maxHeartbeats 400000 in
theorem join_nil (A : Option Addr) (c : Nat) (w : World) : Calls Try.prog 99 #[.slice A 0 c] w fun e w' => e = .returned (.string ⟨#[]⟩) ∧ Below w.heap.size w w' := by
  have hmk : ∀ w : World, (Instr.makeSlice 84 (.int .i64 0) (.int .i64 0)).run Try.prog w = .ok (.slice (some ⟨w.heap.size, 0, none⟩) 0 0) (w.alloc (.cells (madeCells #[.int .u8 0] 0) 5)) := fun w =>
    run_make_row' (P := Try.prog) 84 5 (.int .u8 0) 1 Try.underlying84 info5 rfl .i64 .i64 0 (by omega) (by omega) w
  have g := run_convert_bytes_arg (P := Try.prog) (w.alloc (.cells (madeCells #[.int .u8 0] 0) 5)) 84 5 Try.underlying84 Try.underlying5 w.heap.size 0 0 0 [] rfl (fun i hi => by omega) 9 Try.underlying9
  go_enter Try.func99, Try.ntmps99
  go_wp2
  go_loop [3, 12] (fun t i => i = .int .i64 0 ∧ t = .int .i64 0) (fun _ _ => 0)
  case atStart => exact ⟨rfl, rfl⟩
  case round =>
    obtain ⟨rfl, rfl⟩ := hrel
    go_wp2
    go_loop [7, 25] (fun t i => i = .int .i64 0 ∧ t = .int .i64 0) (fun _ _ => 0)
    case atStart => exact ⟨rfl, rfl⟩
    case round =>
      obtain ⟨rfl, rfl⟩ := hrel
      go_wp2
      go_ret
      exact ⟨rfl, (Below.refl _ _).alloc (Nat.le_refl _) _⟩

set_option maxRecDepth 100000 in
theorem join_strs (w : World) (x : Value) (ss : List ByteArray) (hx : StrsR w x ss) (hm : (cat ss).length ≤ 140737488355328) (hl : ss.length ≤ 140737488355328) :
    Calls Try.prog 99 #[x] w fun e w' => e = .returned (.string (bs (cat ss))) ∧ Below w.heap.size w w' := by
  obtain ⟨m1, A1, c1, rfl, h1⟩ := hx
  rcases h1 with rfl | ⟨a1, rfl, b1, e1⟩
  · exact join_nil A1 c1 w
  · exact join_any ss a1 c1 _ _ w rfl rfl hm hl b1 e1
set_option maxRecDepth 100000 in
/-- of a literal list of texts -/
theorem join_lit (w : World) (ss : List ByteArray) (n : Nat) (hn : n = ss.length) (cells : Array Value) (hc : cells = (ss.map Value.string).toArray) (X : ByteArray) (hX : X = bs (cat ss)) (hm : X.size ≤ 140737488355328) (hl : n ≤ 1000) :
    Calls Try.prog 99 #[.slice (some ⟨w.heap.size, 0, none⟩) n n] (w.alloc (.cells cells 9)) fun e w' => e = .returned (.string X) ∧ Below w.heap.size w w' := by
  have hs : StrsR (w.alloc (.cells cells 9)) (.slice (some ⟨w.heap.size, 0, none⟩) n n) ss := StrsR.lit w ss n hn (by unfold maxLen; omega) cells hc 9
  subst hX
  refine (join_strs _ _ ss hs hm (by omega)).mono fun e w' ⟨he, hb⟩ => ⟨he, ?_⟩
  exact Since.step (Since.alloc (Since.refl w) _) hb
end Oct
end Go.Proofs.Ytihpndfjcgodiaa

/- octets.Pieces, octets.Trim. -/
namespace Go.Proofs.Ytihpndfjcgodiaa
open Go.RowKit
namespace Oct

/-- piece number i of n bytes each -/
def pc (l : List UInt8) (n i : Nat) : ByteArray := bs ((l.drop (n * i)).take n)
def pcs (l : List UInt8) (n m : Nat) : List ByteArray := (List.range m).map (pc l n)
theorem pcs_len (l : List UInt8) (n m : Nat) : (pcs l n m).length = m := by simp [pcs]
theorem pcs_succ (l : List UInt8) (n m : Nat) : pcs l n (m + 1) = pcs l n m ++ [pc l n m] := by simp [pcs, List.range_succ]
def strLen : Value → Nat | .string r => r.size | _ => 0
theorem drop_ext (R : ByteArray) (l : List UInt8) (n k : Nat) (h : R.data.toList = l.drop (n * k)) : (R.extract n R.size).data.toList = l.drop (n * (k + 1)) := by
  have h9 : R.size = R.data.toList.length := rfl
  rw [ext_list, h9, h, List.drop_drop, List.take_of_length_le (by simp; omega), Nat.mul_succ]
theorem take_ext (R : ByteArray) (l : List UInt8) (n k : Nat) (h : R.data.toList = l.drop (n * k)) : R.extract 0 n = pc l n k := by
  apply ba_ext
  rw [ext_list, h]; rfl
theorem len_ext (R : ByteArray) (l : List UInt8) (n k : Nat) (h : R.data.toList = l.drop (n * k)) : R.size = l.length - n * k := by
  have h9 : R.size = R.data.toList.length := rfl
  rw [h9, h, List.length_drop]
theorem pc_rest (R : ByteArray) (l : List UInt8) (n k : Nat) (h : R.data.toList = l.drop (n * k)) (hs : R.size ≤ n) : R = pc l n k := by
  apply ba_ext
  have h9 : R.size = R.data.toList.length := rfl
  show _ = (l.drop (n * k)).take n
  rw [List.take_of_length_le (by rw [← h]; omega), h]
theorem ceil_last (S n k : Nat) (h1 : 1 ≤ n) (h2 : n * k < S) (h3 : S - n * k ≤ n) : (S + n - 1) / n = k + 1 := by
  have h4 : n * (k + 1) = n * k + n := Nat.mul_succ _ _
  rw [Nat.div_eq_of_lt_le]
  · rw [Nat.mul_comm]; omega
  · rw [Nat.mul_comm, Nat.mul_succ]; omega


/-- a text without the zero bytes ahead -/
def trimL (l : List UInt8) : List UInt8 := l.dropWhile (· == 0)
theorem trimL_at (l : List UInt8) (k : Nat) (h0 : ∀ i, i < k → l[i]? = some 0) (x : UInt8) (hx : l[k]? = some x) (hne : x ≠ 0) : trimL l = l.drop k := by
  induction k generalizing l with
  | zero =>
    cases l with
    | nil => simp at hx
    | cons y l =>
      simp at hx
      subst hx
      unfold trimL
      rw [List.dropWhile_cons, if_neg (by simpa using hne)]
      rfl
  | succ k ih =>
    cases l with
    | nil => simp at hx
    | cons y l =>
      have h1 := h0 0 (by omega)
      simp at h1
      subst h1
      unfold trimL
      rw [List.dropWhile_cons, if_pos (by rfl), List.drop_succ_cons]
      exact ih l (fun i hi => by have := h0 (i + 1) (by omega); simpa using this) (by simpa using hx)
theorem trimL_all (l : List UInt8) (h0 : ∀ i, i < l.length → l[i]? = some 0) : trimL l = [] := by
  induction l with
  | nil => rfl
  | cons y l ih =>
    have h1 := h0 0 (by simp)
    simp at h1
    subst h1
    unfold trimL
    rw [List.dropWhile_cons, if_pos (by rfl)]
    exact ih (fun i hi => by have := h0 (i + 1) (by simp; omega); simpa using this)


end Oct
end Go.Proofs.Ytihpndfjcgodiaa

/- The reference's Cut, Pieces, Zeros, Pad, Trim. -/
namespace Go.Proofs.Ytihpndfjcgodiaa
open Go.RowKit
namespace RefOct

theorem one_ext (s : ByteArray) (j : Nat) (h : j < s.size) : (s.extract j (j + 1)).data.toList = [s[j]] := by
  rw [ext_list, Nat.add_sub_cancel_left, List.drop_eq_getElem_cons (show j < s.data.toList.length from h)]
  rfl
theorem snoc_ext (O s : ByteArray) (a k j : Nat) (hO : O.data.toList = (s.data.toList.drop a).take k) (hj : j = a + k) (h : j < s.size) : (O ++ s.extract j (j + 1)).data.toList = (s.data.toList.drop a).take (k + 1) := by
  subst hj
  rw [app_list, hO, one_ext s _ h, List.take_succ_eq_append_getElem (by simp; have h9 : s.size = s.data.toList.length := rfl; omega)]
  simp
  rfl




theorem zeros_app (s : ByteArray) (n : Nat) : s ++ strOfNums (List.replicate n 0) = bs (s.data.toList ++ List.replicate n 0) := by
  apply ba_ext
  rw [app_list, show (strOfNums (List.replicate n 0)).data.toList = List.replicate n 0 from by rw [nums_list]; simp, list_bs]



end RefOct
end Go.Proofs.Ytihpndfjcgodiaa

/- Whole numbers as bytes: plain mathematics. -/
namespace Go.Proofs.Ytihpndfjcgodiaa
open Go.RowKit
namespace Whole
open RefOct (low low_len)
open Oct (numN trimL)

def rightL : List UInt8 → Bool
  | [] => false
  | [_] => true
  | a :: b :: _ => !(decide (a.toNat = 0) && decide (b.toNat < 128)) && !(decide (a.toNat = 255) && decide (128 ≤ b.toNat))
/-- the number of k bytes, the first of which bears the sign -/
def sg (l : List UInt8) (k : Nat) : Int := (numN (l.take k) : Int) - if 128 ≤ (l.getD 0 0).toNat then 256 ^ k else 0
def sgn (l : List UInt8) : Int := sg l l.length
theorem sg_zero (l : List UInt8) : sg l 0 = if 128 ≤ (l.getD 0 0).toNat then -1 else 0 := by unfold sg; split <;> simp [numN]
theorem sg_succ (l : List UInt8) (k : Nat) (x : UInt8) (h : l[k]? = some x) : sg l (k + 1) = 256 * sg l k + (x.toNat : Int) := by
  have hk : k < l.length := (List.getElem?_eq_some_iff.1 h).1
  have hx : l[k] = x := (List.getElem?_eq_some_iff.1 h).2
  unfold sg
  rw [List.take_succ_eq_append_getElem hk, hx, Oct.numN_snoc]
  split
  · rw [Int.pow_succ]; omega
  · omega
theorem sg_one (l : List UInt8) (x : UInt8) (h : l[0]? = some x) : sg l 1 = if 128 ≤ x.toNat then (x.toNat : Int) - 256 else (x.toNat : Int) := by
  rw [sg_succ l 0 x h, sg_zero, show l.getD 0 0 = x from by unfold List.getD; rw [h]; rfl]
  split <;> omega
theorem sg_bd (l : List UInt8) (k : Nat) (h : k < l.length) : -(128 * 256 ^ k : Int) ≤ sg l (k + 1) ∧ sg l (k + 1) < 128 * 256 ^ k := by
  induction k with
  | zero =>
    have hx : l[0]? = some l[0] := List.getElem?_eq_getElem h
    have hb := l[0].toNat_lt
    rw [sg_one l _ hx]
    split <;> omega
  | succ k ih =>
    obtain ⟨h1, h2⟩ := ih (by omega)
    have hx : l[k + 1]? = some l[k + 1] := List.getElem?_eq_getElem h
    have hb := l[k + 1].toNat_lt
    rw [sg_succ l (k + 1) _ hx, Int.pow_succ]
    generalize (256 : Int) ^ k = P at *
    omega
theorem sg_small (l : List UInt8) (k : Nat) (h : k < l.length) (h7 : k ≤ 7) : -36028797018963968 ≤ sg l k ∧ sg l k ≤ 36028797018963967 := by
  cases k with
  | zero => rw [sg_zero]; split <;> omega
  | succ k =>
    obtain ⟨h1, h2⟩ := sg_bd l k (by omega)
    have h3 : (256 : Int) ^ k ≤ 256 ^ 6 := by
      have h4 : (256 : Nat) ^ k ≤ 256 ^ 6 := Nat.pow_le_pow_right (by decide) (by omega)
      have h5 : ((256 ^ k : Nat) : Int) ≤ ((256 ^ 6 : Nat) : Int) := by omega
      simpa using h5
    have h6 : (256 : Int) ^ 6 = 281474976710656 := by decide
    omega

/-- n fits into k bytes -/
def fits (n : Int) (k : Nat) : Prop := -(128 * 256 ^ (k - 1) : Int) ≤ n ∧ n < 128 * 256 ^ (k - 1)
/-- how many bytes a number takes -/
def wid (n : Int) : Nat := if -128 ≤ n ∧ n < 128 then 1 else if -32768 ≤ n ∧ n < 32768 then 2 else if -8388608 ≤ n ∧ n < 8388608 then 3 else if -2147483648 ≤ n ∧ n < 2147483648 then 4 else if -549755813888 ≤ n ∧ n < 549755813888 then 5
  else if -140737488355328 ≤ n ∧ n < 140737488355328 then 6 else if -36028797018963968 ≤ n ∧ n < 36028797018963968 then 7 else 8
theorem wid_bd (n : Int) : 1 ≤ wid n ∧ wid n ≤ 8 := by unfold wid; constructor <;> (repeat' split) <;> omega
theorem low_at (u : Int) (k : Nat) : low u (k + 1) = UInt8.ofNat (u / 2 ^ (8 * k) % 256).toNat :: low u k := rfl
theorem byte_at (u : Int) (k : Nat) : ((UInt8.ofNat (u / 2 ^ (8 * k) % 256).toNat).toNat : Int) = u / 2 ^ (8 * k) % 256 := by
  have h1 : 0 ≤ u / 2 ^ (8 * k) % 256 := Int.emod_nonneg _ (by decide)
  have h2 : u / 2 ^ (8 * k) % 256 < 256 := Int.emod_lt_of_pos _ (by decide)
  rw [UInt8.toNat_ofNat']
  omega

theorem right_wide (n u : Int) (hu : u = n % 18446744073709551616) (h1 : -9223372036854775808 ≤ n) (h2 : n ≤ 9223372036854775807) (j : Nat) (hj : 2 ≤ j) (hj8 : j ≤ 8) (hw : wid n ≤ j) : rightL (low u j) = false ↔ wid n < j := by
  obtain ⟨k, rfl⟩ : ∃ k, j = k + 2 := ⟨j - 2, by omega⟩
  rw [low_at, low_at]
  have b1 := byte_at u (k + 1)
  have b2 := byte_at u k
  show (!(decide ((UInt8.ofNat (u / 2 ^ (8 * (k + 1)) % 256).toNat).toNat = 0) && decide ((UInt8.ofNat (u / 2 ^ (8 * k) % 256).toNat).toNat < 128)) && !(decide ((UInt8.ofNat (u / 2 ^ (8 * (k + 1)) % 256).toNat).toNat = 255) && decide (128 ≤ (UInt8.ofNat (u / 2 ^ (8 * k) % 256).toNat).toNat))) = false ↔ _
  generalize (UInt8.ofNat (u / 2 ^ (8 * (k + 1)) % 256).toNat).toNat = A at *
  generalize (UInt8.ofNat (u / 2 ^ (8 * k) % 256).toNat).toNat = B at *
  have key : (!(decide (A = 0) && decide (B < 128)) && !(decide (A = 255) && decide (128 ≤ B))) = false ↔ (A = 0 ∧ B < 128) ∨ (A = 255 ∧ 128 ≤ B) := by
    by_cases c1 : A = 0 <;> by_cases c2 : B < 128 <;> by_cases c3 : A = 255 <;> by_cases c4 : 128 ≤ B <;> simp [c1, c2, c3, c4] <;> omega
  rw [key]
  rcases (show k = 0 ∨ k = 1 ∨ k = 2 ∨ k = 3 ∨ k = 4 ∨ k = 5 ∨ k = 6 by omega) with rfl | rfl | rfl | rfl | rfl | rfl | rfl <;>
  · simp only [Nat.zero_add, Nat.reduceAdd, Nat.reduceMul, Nat.mul_zero, Int.reducePow, Int.pow_zero, Int.ediv_one] at b1 b2
    unfold wid at hw ⊢
    repeat' split at hw
    all_goals first | (exfalso; omega) | skip
    all_goals simp only [*, if_true, if_false, and_self]
    all_goals omega
theorem eight {P : Nat → Prop} (j : Nat) (hj : 1 ≤ j) (hj8 : j ≤ 8) (h1 : P 1) (h2 : P 2) (h3 : P 3) (h4 : P 4) (h5 : P 5) (h6 : P 6) (h7 : P 7) (h8 : P 8) : P j := by
  rcases (show j = 1 ∨ j = 2 ∨ j = 3 ∨ j = 4 ∨ j = 5 ∨ j = 6 ∨ j = 7 ∨ j = 8 by omega) with rfl | rfl | rfl | rfl | rfl | rfl | rfl | rfl <;> assumption
theorem wid_le (n : Int) (j : Nat) (hj : 1 ≤ j) (hj8 : j ≤ 8) (hr : -9223372036854775808 ≤ n ∧ n ≤ 9223372036854775807) : wid n ≤ j ↔ fits n j := by
  refine eight (P := fun j => wid n ≤ j ↔ fits n j) j hj hj8 ?_ ?_ ?_ ?_ ?_ ?_ ?_ ?_ <;>
  · unfold fits wid
    simp only [Nat.reduceSub, Int.reducePow, Int.pow_zero, Int.mul_one, Int.reduceMul, Int.reduceNeg, Nat.sub_self]
    repeat' split
    all_goals omega
theorem fold_cons (l : List UInt8) : ∀ n : Nat, l.foldl (fun n c => n * 256 + c.toNat) n = n * 256 ^ l.length + numN l := by
  induction l with
  | nil => intro n; simp [numN]
  | cons c l ih =>
    intro n
    have h := ih c.toNat
    unfold numN
    simp only [List.foldl_cons, List.length_cons, Nat.zero_mul, Nat.zero_add]
    rw [ih (n * 256 + c.toNat), h, Nat.add_mul, Nat.mul_assoc, ← Nat.pow_succ', Nat.add_assoc]
theorem numN_cons (c : UInt8) (l : List UInt8) : numN (c :: l) = c.toNat * 256 ^ l.length + numN l := by
  have h := fold_cons l c.toNat
  unfold numN
  simp only [List.foldl_cons, Nat.zero_mul, Nat.zero_add]
  exact h
theorem pow256 (k : Nat) : (2 : Nat) ^ (8 * k) = 256 ^ k := by rw [Nat.pow_mul]
theorem byte_nat (U k : Nat) : (UInt8.ofNat ((U : Int) / 2 ^ (8 * k) % 256).toNat).toNat = U / 256 ^ k % 256 := by
  have h := byte_at (U : Int) k
  have h2 : ((U : Int) / 2 ^ (8 * k) % 256) = ((U / 2 ^ (8 * k) % 256 : Nat) : Int) := by
    rw [Int.natCast_emod, Int.natCast_ediv, Int.natCast_pow]; rfl
  have h4 : (UInt8.ofNat ((U : Int) / 2 ^ (8 * k) % 256).toNat).toNat = U / 2 ^ (8 * k) % 256 := Int.ofNat_inj.1 (h.trans h2)
  rw [h4, pow256]
theorem numN_low (U : Nat) (k : Nat) : numN (low (U : Int) k) = U % 256 ^ k := by
  induction k with
  | zero => simp [low, numN, Nat.mod_one]
  | succ k ih =>
    rw [low_at, numN_cons, ih, low_len, byte_nat, Nat.pow_succ, Nat.mod_mul, Nat.mul_comm]
    omega
theorem low_num (l : List UInt8) (t : Nat) : low (((numN l + t * 256 ^ l.length : Nat)) : Int) l.length = l := by
  induction l generalizing t with
  | nil => rfl
  | cons c l ih =>
    have hc := c.toNat_lt
    have hlt := Oct.numN_lt l l.length (Nat.le_refl _)
    have hpos : 0 < 256 ^ l.length := Nat.pow_pos (by decide)
    have he : numN (c :: l) + t * 256 ^ (c :: l).length = numN l + (c.toNat + 256 * t) * 256 ^ l.length := by
      rw [numN_cons, List.length_cons, Nat.pow_succ, Nat.add_mul]
      have : t * (256 ^ l.length * 256) = 256 * t * 256 ^ l.length := by rw [← Nat.mul_assoc, Nat.mul_comm, ← Nat.mul_assoc]
      omega
    rw [he, List.length_cons, low_at, ih (c.toNat + 256 * t)]
    congr 1
    apply UInt8.toNat_inj.1
    rw [byte_nat, Nat.add_mul_div_right _ _ hpos, Nat.div_eq_of_lt hlt]
    omega
theorem top_low (U k : Nat) : ((low (U : Int) (k + 1)).getD 0 0).toNat = U / 256 ^ k % 256 := by rw [low_at]; exact byte_nat U k

theorem sgn_low (n u : Int) (hu : u = n % 18446744073709551616) (j : Nat) (hj : 1 ≤ j) (hj8 : j ≤ 8) (hw : fits n j) : sgn (low u j) = n := by
  obtain ⟨U, rfl⟩ := Int.eq_ofNat_of_zero_le (show 0 ≤ u by omega)
  obtain ⟨k, rfl⟩ : ∃ k, j = k + 1 := ⟨j - 1, by omega⟩
  unfold sgn sg
  rw [low_len, List.take_of_length_le (by rw [low_len]; omega), numN_low, top_low]
  unfold fits at hw
  rcases (show k = 0 ∨ k = 1 ∨ k = 2 ∨ k = 3 ∨ k = 4 ∨ k = 5 ∨ k = 6 ∨ k = 7 by omega) with rfl | rfl | rfl | rfl | rfl | rfl | rfl | rfl <;>
  · simp only [Nat.zero_add, Nat.reduceAdd, Nat.reducePow, Nat.pow_zero, Nat.div_one, Nat.reduceSub, Int.reducePow, Int.pow_zero, Int.mul_one, Int.reduceMul, Int.reduceNeg, Nat.sub_self] at hw ⊢
    split <;> omega
theorem sgn_fits (l : List UInt8) (h : 1 ≤ l.length) : fits (sgn l) l.length := by
  obtain ⟨k, hk⟩ : ∃ k, l.length = k + 1 := ⟨l.length - 1, by omega⟩
  unfold fits sgn
  rw [hk, Nat.add_sub_cancel]
  exact sg_bd l k (by omega)
theorem sgn_range (l : List UInt8) (h : 1 ≤ l.length) (h8 : l.length ≤ 8) : -9223372036854775808 ≤ sgn l ∧ sgn l ≤ 9223372036854775807 := by
  have hf := sgn_fits l h
  unfold fits at hf
  have h4 : (256 : Nat) ^ (l.length - 1) ≤ 256 ^ 7 := Nat.pow_le_pow_right (by decide) (by omega)
  have h5 : ((256 ^ (l.length - 1) : Nat) : Int) ≤ ((256 ^ 7 : Nat) : Int) := by omega
  rw [Int.natCast_pow] at h5
  have h6 : ((256 ^ 7 : Nat) : Int) = 72057594037927936 := by decide
  have h7 : ((256 : Nat) : Int) = 256 := rfl
  rw [h6, h7] at h5
  omega
/-- what is read has just its bytes -/
theorem low_sgn (l : List UInt8) (h : 1 ≤ l.length) (h8 : l.length ≤ 8) : low (sgn l % 18446744073709551616) l.length = l := by
  have hr := sgn_range l h h8
  have hlt := Oct.numN_lt l l.length (Nat.le_refl _)
  unfold sgn sg at *
  rw [List.take_of_length_le (Nat.le_refl _)] at *
  obtain ⟨c, hc⟩ : ∃ c, c = 8 - l.length := ⟨_, rfl⟩
  have hp : 256 ^ l.length * 256 ^ c = 18446744073709551616 := by rw [← Nat.pow_add, show l.length + c = 8 by omega]
  have hc1 : 1 ≤ 256 ^ c := Nat.pow_pos (by decide)
  by_cases hs : 128 ≤ (l.getD 0 0).toNat
  · rw [if_pos hs] at hr ⊢
    have h1 := low_num l (256 ^ c - 1)
    have he : ((numN l : Int) - 256 ^ l.length) % 18446744073709551616 = ((numN l + (256 ^ c - 1) * 256 ^ l.length : Nat) : Int) := by
      have h2 : (256 ^ c - 1) * 256 ^ l.length = 18446744073709551616 - 256 ^ l.length := by rw [Nat.sub_mul, Nat.mul_comm, hp, Nat.one_mul]
      have h3 : 256 ^ l.length ≤ 18446744073709551616 := by
        rw [← hp]
        exact Nat.le_mul_of_pos_right _ hc1
      rw [h2]
      have h4 : ((256 : Int) ^ l.length) = ((256 ^ l.length : Nat) : Int) := by rw [Int.natCast_pow]; rfl
      rw [h4]
      generalize 256 ^ l.length = P at *
      have hP : 0 < P := by omega
      omega
    rw [he]
    exact h1
  · rw [if_neg hs] at hr ⊢
    have h1 := low_num l 0
    rw [Nat.zero_mul, Nat.add_zero] at h1
    have he : ((numN l : Int) - 0) % 18446744073709551616 = (numN l : Int) := by omega
    rw [he]
    exact h1
theorem wid_sgn (l : List UInt8) (h : 1 ≤ l.length) (h8 : l.length ≤ 8) (hr : rightL l = true) : wid (sgn l) = l.length := by
  have hb := sgn_range l h h8
  have hle := (wid_le (sgn l) l.length h h8 hb).2 (sgn_fits l h)
  have h1 := (wid_bd (sgn l)).1
  by_cases h2 : 2 ≤ l.length
  · have h3 := right_wide (sgn l) _ rfl hb.1 hb.2 l.length h2 h8 hle
    rw [low_sgn l h h8, hr] at h3
    have h4 : ¬ wid (sgn l) < l.length := fun h5 => by have := h3.2 h5; cases this
    omega
  · omega
theorem right_low (n u : Int) (hu : u = n % 18446744073709551616) (hr : -9223372036854775808 ≤ n ∧ n ≤ 9223372036854775807) : rightL (low u (wid n)) = true := by
  obtain ⟨h1, h8⟩ := wid_bd n
  by_cases h2 : 2 ≤ wid n
  · have h3 := right_wide n u hu hr.1 hr.2 (wid n) h2 h8 (Nat.le_refl _)
    cases hc : rightL (low u (wid n)) with
    | true => rfl
    | false => exact absurd (h3.1 hc) (Nat.lt_irrefl _)
  · rw [show wid n = 1 by omega]; rfl
end Whole
end Go.Proofs.Ytihpndfjcgodiaa
