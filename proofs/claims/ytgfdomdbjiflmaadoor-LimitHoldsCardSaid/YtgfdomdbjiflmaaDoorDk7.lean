/- Joined texts. -/
-- PACK: YtgfdomdbjiflmaaDoorLimM YtgfdomdbjiflmaaDoorDigM YtgfdomdbjiflmaaDoorPlainH
import Derived.Test.YtgfdomdbjiflmaaDoorDk5
import Derived.Test.YtgfdomdbjiflmaaDoorDk2

/- Sizes and costs of blobs: whole numbers, and the small functions that reckon them. -/
namespace Go.Proofs.YtgfdomdbjiflmaaDoor
open Go.RowKit
namespace Limit

def fitB (f n : Int) : Bool := if f = 1 then decide (16 ≤ n) && decide (n ≤ 65544) && (n % 8 == 0) else if f = 2 then decide (80 ≤ n) && decide (n ≤ 9999) else false
def mostI (f n : Int) : Int := if fitB f n then (if f = 1 then 6 * n / 8 else n / 8 + 16) else 0
/-- a key's size is one that there is -/
def kk (n : Int) : Bool := n == 16 || n == 24 || n == 32
theorem fit_w (n : Int) : fitB 1 n = (decide (16 ≤ n) && decide (n ≤ 65544) && (n % 8 == 0)) := by unfold fitB; rw [if_pos rfl]
theorem fit_k (n : Int) : fitB 2 n = (decide (80 ≤ n) && decide (n ≤ 9999)) := by unfold fitB; rw [if_neg (by decide), if_pos rfl]
theorem fit_o (f n : Int) (h1 : f ≠ 1) (h2 : f ≠ 2) : fitB f n = false := by unfold fitB; rw [if_neg h1, if_neg h2]
theorem fit_wt {n : Int} (h : fitB 1 n = true) : 16 ≤ n ∧ n ≤ 65544 ∧ n % 8 = 0 := by
  rw [fit_w] at h
  simp only [Bool.and_eq_true, decide_eq_true_eq, beq_iff_eq] at h
  exact ⟨h.1.1, h.1.2, h.2⟩
theorem fit_kt {n : Int} (h : fitB 2 n = true) : 80 ≤ n ∧ n ≤ 9999 := by
  rw [fit_k] at h
  simp only [Bool.and_eq_true, decide_eq_true_eq] at h
  exact h
theorem fit_cases {f n : Int} (h : fitB f n = true) : (f = 1 ∧ 16 ≤ n ∧ n ≤ 65544 ∧ n % 8 = 0) ∨ (f = 2 ∧ 80 ≤ n ∧ n ≤ 9999) := by
  by_cases h1 : f = 1
  · subst h1; exact .inl ⟨rfl, fit_wt h⟩
  · by_cases h2 : f = 2
    · subst h2; exact .inr ⟨rfl, fit_kt h⟩
    · rw [fit_o f n h1 h2] at h; cases h
set_option maxRecDepth 100000 in
set_option maxHeartbeats 1000000 in
theorem fits_ret (f n : Int) (v : Bool) (hv : v = fitB f n) : Ret 26 #[.int .i64 f, .int .i64 n] (.bool v) := by
  intro w
  by_cases f1 : f = 1
  · subst f1
    rw [fit_w] at hv
    by_cases a : 16 ≤ n
    · have t1 : decide ((16 : Int) ≤ n) = true := decide_eq_true a
      by_cases b : n ≤ 65544
      · have t2 : decide (n ≤ (65544 : Int)) = true := decide_eq_true b
        rw [t1, t2, Bool.true_and, Bool.true_and] at hv
        subst hv
        have i0 : 0 ≤ n := by omega
        go_enter Tryd.func26, Tryd.ntmps26
        go_wp2_with fail
        go_ret
        exact ⟨rfl, rfl⟩
      · have t2 : decide (n ≤ (65544 : Int)) = false := decide_eq_false b
        rw [t1, t2, Bool.true_and, Bool.false_and] at hv
        subst hv
        clear b
        go_enter Tryd.func26, Tryd.ntmps26
        go_wp2_with fail
        go_ret
        exact ⟨rfl, rfl⟩
    · have t1 : decide ((16 : Int) ≤ n) = false := decide_eq_false a
      rw [t1, Bool.false_and, Bool.false_and] at hv
      subst hv
      clear a
      go_enter Tryd.func26, Tryd.ntmps26
      go_wp2_with fail
      go_ret
      exact ⟨rfl, rfl⟩
  · by_cases f2 : f = 2
    · subst f2
      rw [fit_k] at hv
      clear f1
      by_cases a : 80 ≤ n
      · have t1 : decide ((80 : Int) ≤ n) = true := decide_eq_true a
        rw [t1, Bool.true_and] at hv
        subst hv
        go_enter Tryd.func26, Tryd.ntmps26
        go_wp2_with fail
        go_ret
        exact ⟨rfl, rfl⟩
      · have t1 : decide ((80 : Int) ≤ n) = false := decide_eq_false a
        rw [t1, Bool.false_and] at hv
        subst hv
        clear a
        go_enter Tryd.func26, Tryd.ntmps26
        go_wp2_with fail
        go_ret
        exact ⟨rfl, rfl⟩
    · rw [fit_o f n f1 f2] at hv
      subst hv
      have b1 : (f == 1) = false := beq_eq_false_iff_ne.2 f1
      have b2 : (f == 2) = false := beq_eq_false_iff_ne.2 f2
      clear f1 f2
      go_enter Tryd.func26, Tryd.ntmps26
      go_wp2_with fail
      go_ret
      exact ⟨rfl, rfl⟩
set_option maxRecDepth 100000 in
set_option maxHeartbeats 1000000 in
theorem most_ret (f n : Int) (v : Int) (hv : v = mostI f n) : Ret 25 #[.int .i64 f, .int .i64 n] (.int .i64 v) := by
  intro w
  have c1 := fits_ret f n _ rfl
  unfold mostI at hv
  cases h : fitB f n with
  | false =>
    rw [h, if_neg (by decide)] at hv
    rw [h] at c1
    subst hv
    go_enter Tryd.func25, Tryd.ntmps25
    go_wp2_with fail
    refine (c1).calls ?_
    go_wp2_with fail
    go_ret
    exact ⟨rfl, rfl⟩
  | true =>
    rw [h, if_pos rfl] at hv
    rw [h] at c1
    rcases fit_cases h with ⟨rfl, h1, h2, h3⟩ | ⟨rfl, h1, h2⟩
    · rw [if_pos rfl] at hv
      skip
      subst hv
      clear h h3
      have i0 : 0 ≤ 6 * n := by omega
      have i1 : 0 ≤ n := by omega
      go_enter Tryd.func25, Tryd.ntmps25
      go_wp2_with fail
      refine (c1).calls ?_
      go_wp2_with fail
      go_ret
      exact ⟨rfl, rfl⟩
    · rw [if_neg (by decide)] at hv
      subst hv
      clear h
      have i1 : 0 ≤ n := by omega
      go_enter Tryd.func25, Tryd.ntmps25
      go_wp2_with fail
      refine (c1).calls ?_
      go_wp2_with fail
      go_ret
      exact ⟨rfl, rfl⟩
set_option maxRecDepth 100000 in
/-- rounds of a key, tags of a key -/
theorem srounds_yes (k : Int) (hk : kk k = true) : ∃ x, (x == 0) = false ∧ Ret 50 #[.int .i64 k] (.int .i64 x) := by
  obtain ⟨m, hm, h⟩ : ∃ m : Nat, k = (m : Int) ∧ (m = 16 ∨ m = 24 ∨ m = 32) := by
    unfold kk at hk
    simp only [Bool.or_eq_true, beq_iff_eq] at hk
    rcases hk with (rfl | rfl) | rfl
    · exact ⟨16, rfl, .inl rfl⟩
    · exact ⟨24, rfl, .inr (.inl rfl)⟩
    · exact ⟨32, rfl, .inr (.inr rfl)⟩
  subst hm
  refine ⟨((m / 4 + 6 : Nat) : Int), by rw [beq_eq_false_iff_ne]; omega, ?_⟩
  clear hk
  intro w
  rcases h with rfl | rfl | rfl
  all_goals
    go_enter Tryd.func50, Tryd.ntmps50
    go_wp2_with fail
    go_ret
    exact ⟨rfl, rfl⟩
set_option maxRecDepth 100000 in
theorem srounds_no (n : Int) (h : kk n = false) : Ret 50 #[.int .i64 n] (.int .i64 0) := by
  intro w
  unfold kk at h
  simp only [Bool.or_eq_false_iff] at h
  obtain ⟨⟨n1, n2⟩, n3⟩ := h
  go_enter Tryd.func50, Tryd.ntmps50
  go_wp2_with fail
  go_ret
  exact ⟨rfl, rfl⟩
def tagsI (k : Int) : Int := if k = 16 then 1 else 2
set_option maxRecDepth 100000 in
set_option maxHeartbeats 1000000 in
theorem ktags (k : Int) (hk : kk k = true) : Ret 73 #[.int .i64 k] (.int .i64 (tagsI k)) := by
  intro w
  unfold kk at hk
  simp only [Bool.or_eq_true, beq_iff_eq] at hk
  rcases hk with (rfl | rfl) | rfl
  · have e : tagsI 16 = 1 := rfl
    rw [e]
    go_enter Tryd.func73, Tryd.ntmps73
    go_wp2_with fail
    go_ret
    exact ⟨rfl, rfl⟩
  · have e : tagsI 24 = 2 := rfl
    rw [e]
    go_enter Tryd.func73, Tryd.ntmps73
    go_wp2_with fail
    go_ret
    exact ⟨rfl, rfl⟩
  · have e : tagsI 32 = 2 := rfl
    rw [e]
    go_enter Tryd.func73, Tryd.ntmps73
    go_wp2_with fail
    go_ret
    exact ⟨rfl, rfl⟩
set_option maxRecDepth 100000 in
/-- steps of a wrapped text -/
theorem steps_ret (n : Int) (h1 : 16 ≤ n) (h2 : n ≤ 65536) (h3 : n % 8 = 0) : Ret 70 #[.int .i64 n] (.int .i64 (6 * (n / 8))) := by
  intro w
  have t1 : decide (n < 16) = false := decide_eq_false (by omega)
  have t2 : decide ((65536 : Int) < n) = false := decide_eq_false (by omega)
  have t3 : (n % 8 == 0) = true := by rw [beq_iff_eq]; exact h3
  have t4 : (n % 8 != 0) = false := by rw [bne_eq_false_iff_eq]; exact h3
  clear h3
  go_enter Tryd.func70, Tryd.ntmps70
  go_wp2_with fail
  go_ret
  exact ⟨rfl, rfl⟩
/-- tags of a text -/
def blkI (n : Int) : Int := if n = 0 then 1 else (n - 1) / 16 + 1
set_option maxRecDepth 100000 in
theorem blk_ret (n : Int) (h1 : 0 ≤ n) (h2 : n ≤ 1000000) : Ret 81 #[.int .i64 n] (.int .i64 (blkI n)) := by
  intro w
  have t1 : decide (n < 0) = false := decide_eq_false (by omega)
  by_cases h0 : n = 0
  · subst h0
    have e : blkI 0 = 1 := rfl
    rw [e]
    clear h1 h2 t1
    go_enter Tryd.func81, Tryd.ntmps81
    go_wp2_with fail
    go_ret
    exact ⟨rfl, rfl⟩
  · have e : blkI n = (n - 1) / 16 + 1 := by unfold blkI; rw [if_neg h0]
    rw [e]
    have t2 : (n == 0) = false := beq_eq_false_iff_ne.2 h0
    have i1 : (0 : Int) ≤ n - 1 := by omega
    clear h0
    go_enter Tryd.func81, Tryd.ntmps81
    go_wp2_with fail
    go_ret
    exact ⟨rfl, rfl⟩
set_option maxRecDepth 100000 in
theorem sblk_ret (a b : Int) (h1 : 0 ≤ a) (h2 : a ≤ 60000) (h3 : 0 ≤ b) (h4 : b ≤ 60000) (x : Int) (hx : x = blkI (a + b)) (hx2 : 0 ≤ x ∧ x ≤ 1000000) : Ret 72 #[.int .i64 a, .int .i64 b] (.int .i64 (x + 1 + b / 16)) := by
  intro w
  have c1 := blk_ret (a + b) (by omega) (by omega)
  rw [← hx] at c1
  have t1 : decide (a < 0) = false := decide_eq_false (by omega)
  have t2 : decide ((65552 : Int) < a) = false := decide_eq_false (by omega)
  have t3 : decide (b < 0) = false := decide_eq_false (by omega)
  have t4 : decide ((65552 : Int) < b) = false := decide_eq_false (by omega)
  clear hx
  obtain ⟨x1, x2⟩ := hx2
  go_enter Tryd.func72, Tryd.ntmps72
  go_wp2_with fail
  refine (c1).calls ?_
  go_wp2_with fail
  go_ret
  exact ⟨rfl, rfl⟩
end Limit
end Go.Proofs.YtgfdomdbjiflmaaDoor

/- Digits in plain Lean. -/
namespace Go.Proofs.YtgfdomdbjiflmaaDoor
open Go.RowKit
namespace Dig

/-- the value of a digit, or -1 -/
def val (c : Nat) : Int := if 48 ≤ c ∧ c ≤ 57 then (c : Int) - 48 else if 65 ≤ c ∧ c ≤ 70 then (c : Int) - 55 else -1

/-- digit number d -/
def sign (d : Nat) : UInt8 := ([48, 49, 50, 51, 52, 53, 54, 55, 56, 57, 65, 66, 67, 68, 69, 70] : List UInt8).getD d 0
theorem sign_at (d : Nat) (h : d < (⟨#[48, 49, 50, 51, 52, 53, 54, 55, 56, 57, 65, 66, 67, 68, 69, 70]⟩ : ByteArray).size) : (⟨#[48, 49, 50, 51, 52, 53, 54, 55, 56, 57, 65, 66, 67, 68, 69, 70]⟩ : ByteArray)[d] = sign d := by
  have h' : d < 16 := h
  rcases (show d = 0 ∨ d = 1 ∨ d = 2 ∨ d = 3 ∨ d = 4 ∨ d = 5 ∨ d = 6 ∨ d = 7 ∨ d = 8 ∨ d = 9 ∨ d = 10 ∨ d = 11 ∨ d = 12 ∨ d = 13 ∨ d = 14 ∨ d = 15 by omega) with rfl | rfl | rfl | rfl | rfl | rfl | rfl | rfl | rfl | rfl | rfl | rfl | rfl | rfl | rfl | rfl <;> rfl
theorem getD_at (s : ByteArray) (k : Nat) (h : k < s.size) : s.data.toList.getD k 0 = s[k] := by
  simp [List.getD, List.getElem?_eq_getElem (show k < s.data.toList.length from h)]; rfl
/-- the digits of the first k bytes -/
def hexL (l : List UInt8) : List UInt8 := l.flatMap fun c => [sign (c.toNat / 16), sign (c.toNat % 16)]
def hexC (l : List UInt8) (j : Nat) : Value := .int .u8 (if j % 2 = 0 then ((sign ((l.getD (j / 2) 0).toNat / 16)).toNat : Int) else ((sign ((l.getD (j / 2) 0).toNat % 16)).toNat : Int))

theorem hexL_len (l : List UInt8) : (hexL l).length = 2 * l.length := by
  induction l with
  | nil => rfl
  | cons c l ih =>
    show (sign (c.toNat / 16) :: sign (c.toNat % 16) :: hexL l).length = _
    simp only [List.length_cons, ih]; omega
theorem hexL_get (l : List UInt8) (i : Nat) (hi : i < 2 * l.length) : (hexL l)[i]? = some (if i % 2 = 0 then sign ((l.getD (i / 2) 0).toNat / 16) else sign ((l.getD (i / 2) 0).toNat % 16)) := by
  induction l generalizing i with
  | nil => simp at hi
  | cons c l ih =>
    have he : hexL (c :: l) = sign (c.toNat / 16) :: sign (c.toNat % 16) :: hexL l := rfl
    rw [he]
    match i with
    | 0 => rfl
    | 1 => rfl
    | i + 2 =>
      show (hexL l)[i]? = _
      rw [ih i (by simp at hi; omega), show (i + 2) % 2 = i % 2 from by omega, show (i + 2) / 2 = i / 2 + 1 from by omega]
      rfl
theorem hexL_at (l : List UInt8) (i : Nat) (hi : i < 2 * l.length) : some (hexC l i) = some (Value.int .u8 (((hexL l).map fun c => (c.toNat : Int)).getD i 0)) := by
  have h := hexL_get l i hi
  unfold hexC
  have hm : ((hexL l).map fun c => (c.toNat : Int)).getD i 0 = ((if i % 2 = 0 then sign ((l.getD (i / 2) 0).toNat / 16) else sign ((l.getD (i / 2) 0).toNat % 16)).toNat : Int) := by
    unfold List.getD; rw [List.getElem?_map]; unfold List.getD at h; rw [h]; rfl
  rw [hm]
  split <;> rfl

theorem val_lt (c : Nat) : -1 ≤ val c ∧ val c ≤ 15 := by unfold val; split <;> (try split) <;> omega
def hi (l : List UInt8) (j : Nat) : Int := val (l.getD (2 * j) 0).toNat
def lo (l : List UInt8) (j : Nat) : Int := val (l.getD (2 * j + 1) 0).toNat
/-- are the first k pairs digits -/
def okN (l : List UInt8) (k : Nat) : Bool := (List.range k).all fun j => decide (0 ≤ hi l j) && decide (0 ≤ lo l j)
def pairV (l : List UInt8) (j : Nat) : Int := 16 * hi l j + lo l j
def unB (l : List UInt8) : Bool := decide (l.length % 2 = 0) && okN l (l.length / 2)
def unS (l : List UInt8) : ByteArray := if unB l = true then strOfNums ((List.range (l.length / 2)).map (pairV l)) else ⟨#[]⟩
theorem okN_succ (l : List UInt8) (k : Nat) : okN l (k + 1) = (okN l k && (decide (0 ≤ hi l k) && decide (0 ≤ lo l k))) := by
  unfold okN; rw [List.range_succ, List.all_append]; simp
theorem okN_le (l : List UInt8) (k m : Nat) (h : okN l m = true) (hk : k ≤ m) : okN l k = true := by
  unfold okN at *
  rw [List.all_eq_true] at *
  exact fun x hx => h x (List.mem_range.2 (by have := List.mem_range.1 hx; omega))

theorem val_sign (c k : Nat) (hk : k < 16) (h : (sign k).toNat = c) : val c = (k : Int) := by
  subst h
  rcases (show k = 0 ∨ k = 1 ∨ k = 2 ∨ k = 3 ∨ k = 4 ∨ k = 5 ∨ k = 6 ∨ k = 7 ∨ k = 8 ∨ k = 9 ∨ k = 10 ∨ k = 11 ∨ k = 12 ∨ k = 13 ∨ k = 14 ∨ k = 15 by omega) with rfl | rfl | rfl | rfl | rfl | rfl | rfl | rfl | rfl | rfl | rfl | rfl | rfl | rfl | rfl | rfl <;> decide +kernel
theorem no_all : (List.range 256).all (fun c => (List.range 16).any (fun k => (sign k).toNat == c) || val c == -1) = true := by decide +kernel
theorem val_none (c : Nat) (hc : c < 256) (h : ∀ k, k < 16 → (sign k).toNat ≠ c) : val c = -1 := by
  have h1 := List.all_eq_true.1 no_all c (List.mem_range.2 hc)
  rw [Bool.or_eq_true] at h1
  rcases h1 with h1 | h1
  · obtain ⟨k, hk, he⟩ := List.any_eq_true.1 h1
    exact absurd (beq_iff_eq.1 he) (h k (List.mem_range.1 hk))
  · exact beq_iff_eq.1 h1
end Dig
end Go.Proofs.YtgfdomdbjiflmaaDoor

/- clavigerplain: Head. -/
namespace Go.Proofs.YtgfdomdbjiflmaaDoor
open Go.RowKit
namespace Plain
/-- are a header's fields short? -/
def headB (u m v e : ByteArray) : Bool := decide (u.size ≤ 20) && decide (m.size ≤ 20) && decide (v.size ≤ 20) && decide (e.size ≤ 20)
set_option maxRecDepth 100000 in
set_option maxHeartbeats 1000000 in
theorem head_core (u m v e : ByteArray) (q1 q2 q3 q4 : Bool) (k1 : decide ((u.size : Int) ≤ 20) = q1) (k2 : decide ((m.size : Int) ≤ 20) = q2) (k3 : decide ((v.size : Int) ≤ 20) = q3) (k4 : decide ((e.size : Int) ≤ 20) = q4) : Mak 38 #[.agg #[.string u, .string m, .string v, .string e]] (.bool (q1 && q2 && q3 && q4)) := by
  intro w
  have HS := Lib.hid (Since.alloc (Since.refl w) (.cells #[.string u, .string m, .string v, .string e] 24))
  cases q1
  · go_enter Tryd.func38, Tryd.ntmps38
    go_wp2_with fail
    go_ret
    exact ⟨rfl, HS.out⟩
  · cases q2
    · go_enter Tryd.func38, Tryd.ntmps38
      go_wp2_with fail
      go_ret
      exact ⟨rfl, HS.out⟩
    · cases q3
      · go_enter Tryd.func38, Tryd.ntmps38
        go_wp2_with fail
        go_ret
        exact ⟨rfl, HS.out⟩
      · go_enter Tryd.func38, Tryd.ntmps38
        go_wp2_with fail
        go_ret
        exact ⟨rfl, HS.out⟩
theorem head_mak (u m v e : ByteArray) (q : Bool) (hq : q = headB u m v e) : Mak 38 #[.agg #[.string u, .string m, .string v, .string e]] (.bool q) := by
  have h := head_core u m v e _ _ _ _ rfl rfl rfl rfl
  have e9 : ∀ s : ByteArray, decide ((s.size : Int) ≤ 20) = decide (s.size ≤ 20) := fun s => by rw [Bool.eq_iff_iff, decide_eq_true_iff, decide_eq_true_iff]; omega
  rw [e9, e9, e9, e9] at h
  rw [hq]
  exact h
end Plain
end Go.Proofs.YtgfdomdbjiflmaaDoor
