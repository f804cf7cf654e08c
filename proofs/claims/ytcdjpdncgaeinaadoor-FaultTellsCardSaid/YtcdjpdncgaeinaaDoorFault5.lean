/- Package fault and its reference: First, Count; slices.Contains. -/
import Derived.Test.YtcdjpdncgaeinaaDoorFault4
import Derived.Laws.ComplexArith
import Derived.Laws.Cover3
import Derived.IntWalk
namespace Go.Proofs.YtcdjpdncgaeinaaDoor
open Go.RowKit
namespace Fault

def firstN (xs : List Int) : Int := (xs.find? (fun x => x != 0)).getD 0
theorem firstN_at : ∀ (xs : List Int) (k : Nat), k < xs.length → (∀ j, j < k → xs.getD j 0 = 0) → xs.getD k 0 ≠ 0 → firstN xs = xs.getD k 0 := by
  intro xs
  induction xs with
  | nil => intro k h; simp at h
  | cons x l ih =>
    intro k hk h0 hne
    cases k with
    | zero =>
      simp at hne ⊢
      simp [firstN, List.find?_cons, hne]
    | succ k =>
      have hx : x = 0 := by simpa using h0 0 (by omega)
      have := ih k (by simpa using hk) (fun j hj => by simpa using h0 (j + 1) (by omega)) (by simpa using hne)
      subst hx
      simp only [firstN, List.find?_cons] at this ⊢
      simpa using this
theorem firstN_none (xs : List Int) (h0 : ∀ j, j < xs.length → xs.getD j 0 = 0) : firstN xs = 0 := by
  unfold firstN
  rw [List.find?_eq_none.2]
  · rfl
  · intro x hx
    obtain ⟨i, hi, rfl⟩ := List.getElem_of_mem hx
    have := h0 i hi
    simp [List.getD, List.getElem?_eq_getElem hi] at this
    simp [this]

set_option maxHeartbeats 1000000 in
theorem first_any (w : World) (v : Value) (xs : List Int) (hv : IntsR w v xs) (hm : xs.length ≤ 1000000) (X : Int) (hX : X = firstN xs) : Calls Tryd.prog 16 #[v] w fun e w' => e = .returned (.int .i64 X) ∧ w = w' := by
  obtain ⟨_, A, c, rfl, h⟩ := hv
  rcases h with rfl | ⟨ad, rfl, hlt, hc⟩
  · have hX0 : X = 0 := hX
    subst hX0
    clear hX
    go_enter Tryd.func16, Tryd.ntmps16
    go_wp2_with fail
    go_loop [7] (fun i => i = .int .i64 0) (fun _ => 0)
    case atStart => rfl
    case round =>
      obtain rfl := hrel
      go_wp2_with fail
      go_ret
      exact ⟨rfl, rfl⟩
  · obtain ⟨n, hn⟩ : ∃ n, xs.length = n := ⟨_, rfl⟩
    rw [hn] at hc hm ⊢
    have Hc := Lib.hid hc
    clear hc
    have HX := Lib.hid hX
    clear hX
    have Hn := Lib.hid hn
    clear hn
    go_enter Tryd.func16, Tryd.ntmps16
    go_wp2_with fail
    go_loop [7] (fun i => ∃ k : Nat, k ≤ n ∧ i = .int .i64 (k : Int) ∧ Hid (∀ j, j < k → xs.getD j 0 = 0)) (fun i => n - (intOf i).toNat)
    case atStart => exact ⟨0, by omega, rfl, Lib.hid (fun j hj => by omega)⟩
    case round =>
      obtain ⟨k, hk, rfl, HZ⟩ := hrel
      by_cases hl : k < n
      · have hck := Hc.out k hl
        obtain ⟨x, hx⟩ : ∃ x, x = xs.getD k 0 := ⟨_, rfl⟩
        rw [← hx] at hck
        by_cases h0 : x = 0
        · have HZ2 : Hid (∀ j, j < k + 1 → xs.getD j 0 = 0) := Lib.hid (fun j hj => by
            by_cases h : j = k
            · rw [h, ← hx, h0]
            · exact HZ.out j (by omega))
          subst h0
          clear hx
          go_wp2_with fail
          go_round
          case rel => exact ⟨k + 1, by omega, by go_num, HZ2⟩
          case measure => simp [intOf]; omega
        · have hX2 : X = x := by rw [HX.out, hx]; exact firstN_at xs k (by rw [Hn.out]; exact hl) HZ.out (by rw [← hx]; exact h0)
          subst hX2
          have hb : (X != 0) = true := bne_iff_ne.2 h0
          clear hx h0 HX
          go_wp2_with fail
          go_ret
          exact ⟨rfl, rfl⟩
      · obtain rfl : k = n := by omega
        have hX2 : X = 0 := by rw [HX.out]; exact firstN_none xs (by rw [Hn.out]; exact HZ.out)
        subst hX2
        clear HX
        go_wp2_with fail
        go_ret
        exact ⟨rfl, rfl⟩

set_option maxHeartbeats 1000000 in
theorem rfirst_any (w : World) (v : Value) (xs : List Int) (hv : IntsR w v xs) (hm : xs.length ≤ 1000000) (X : Int) (hX : X = firstN xs) : Calls Tryd.prog 17 #[v] w fun e w' => e = .returned (.int .i64 X) ∧ w = w' := by
  obtain ⟨_, A, c, rfl, h⟩ := hv
  rcases h with rfl | ⟨ad, rfl, hlt, hc⟩
  · have hX0 : X = 0 := hX
    subst hX0
    clear hX
    go_enter Tryd.func17, Tryd.ntmps17
    go_wp2_with fail
    go_loop [3] (fun i => i = .int .i64 0) (fun _ => 0)
    case atStart => rfl
    case round =>
      obtain rfl := hrel
      go_wp2_with fail
      go_ret
      exact ⟨rfl, rfl⟩
  · obtain ⟨n, hn⟩ : ∃ n, xs.length = n := ⟨_, rfl⟩
    rw [hn] at hc hm ⊢
    have Hc := Lib.hid hc
    clear hc
    have HX := Lib.hid hX
    clear hX
    have Hn := Lib.hid hn
    clear hn
    go_enter Tryd.func17, Tryd.ntmps17
    go_wp2_with fail
    go_loop [3] (fun i => ∃ k : Nat, k ≤ n ∧ i = .int .i64 (k : Int) ∧ Hid (∀ j, j < k → xs.getD j 0 = 0)) (fun i => n - (intOf i).toNat)
    case atStart => exact ⟨0, by omega, rfl, Lib.hid (fun j hj => by omega)⟩
    case round =>
      obtain ⟨k, hk, rfl, HZ⟩ := hrel
      by_cases hl : k < n
      · have hck := Hc.out k hl
        obtain ⟨x, hx⟩ : ∃ x, x = xs.getD k 0 := ⟨_, rfl⟩
        rw [← hx] at hck
        by_cases h0 : x = 0
        · have HZ2 : Hid (∀ j, j < k + 1 → xs.getD j 0 = 0) := Lib.hid (fun j hj => by
            by_cases h : j = k
            · rw [h, ← hx, h0]
            · exact HZ.out j (by omega))
          subst h0
          clear hx
          go_wp2_with fail
          go_round
          case rel => exact ⟨k + 1, by omega, by go_num, HZ2⟩
          case measure => simp [intOf]; omega
        · have hX2 : X = x := by rw [HX.out, hx]; exact firstN_at xs k (by rw [Hn.out]; exact hl) HZ.out (by rw [← hx]; exact h0)
          subst hX2
          have hb : (X != 0) = true := bne_iff_ne.2 h0
          clear hx h0 HX
          go_wp2_with fail
          go_ret
          exact ⟨rfl, rfl⟩
      · obtain rfl : k = n := by omega
        have hX2 : X = 0 := by rw [HX.out]; exact firstN_none xs (by rw [Hn.out]; exact HZ.out)
        subst hX2
        clear HX
        go_wp2_with fail
        go_ret
        exact ⟨rfl, rfl⟩

def fineN (l : List Int) : Nat := l.countP (fun x => x == 0)
def otherN (l : List Int) : Nat := l.countP (fun x => decide (0 < x ∧ x < 18))
theorem count_snoc (p : Int → Bool) (xs : List Int) (k : Nat) (h : k < xs.length) (x : Int) (hx : x = xs.getD k 0) : (xs.take (k + 1)).countP p = (xs.take k).countP p + if p x then 1 else 0 := by
  rw [List.take_succ_eq_append_getElem h, List.countP_append, hx]
  simp [List.getD, List.getElem?_eq_getElem h, List.countP_cons, List.countP_nil]
theorem count_le (p : Int → Bool) (xs : List Int) (k : Nat) : (xs.take k).countP p ≤ k := Nat.le_trans List.countP_le_length (List.length_take_le _ _)

set_option maxHeartbeats 1000000 in
theorem rfine_any (w : World) (v : Value) (xs : List Int) (hv : IntsR w v xs) (hm : xs.length ≤ 1000000) (X : Nat) (hX : X = fineN xs) : Calls Tryd.prog 19 #[v] w fun e w' => e = .returned (.int .i64 (X : Int)) ∧ w = w' := by
  obtain ⟨_, A, c, rfl, h⟩ := hv
  rcases h with rfl | ⟨ad, rfl, hlt, hc⟩
  · have hX0 : X = 0 := hX
    subst hX0
    clear hX
    go_enter Tryd.func19, Tryd.ntmps19
    go_wp2_with fail
    go_loop [3, 4] (fun s i => s = .int .i64 0 ∧ i = .int .i64 0) (fun _ _ => 0)
    case atStart => exact ⟨rfl, rfl⟩
    case round =>
      obtain ⟨rfl, rfl⟩ := hrel
      go_wp2_with fail
      go_ret
      exact ⟨rfl, rfl⟩
  · obtain ⟨n, hn⟩ : ∃ n, xs.length = n := ⟨_, rfl⟩
    rw [hn] at hc hm ⊢
    have Hc := Lib.hid hc
    clear hc
    have HX := Lib.hid hX
    clear hX
    have Hn := Lib.hid hn
    clear hn
    go_enter Tryd.func19, Tryd.ntmps19
    go_wp2_with fail
    go_loop [3, 4] (fun s i => ∃ k q : Nat, k ≤ n ∧ q ≤ k ∧ i = .int .i64 (k : Int) ∧ s = .int .i64 (q : Int) ∧ Hid (q = fineN (xs.take k))) (fun _ i => n - (intOf i).toNat)
    case atStart => exact ⟨0, 0, by omega, by omega, rfl, rfl, Lib.hid rfl⟩
    case round =>
      obtain ⟨k, q, hk, hq, rfl, rfl, HQ⟩ := hrel
      by_cases hl : k < n
      · have hck := Hc.out k hl
        obtain ⟨x, hx⟩ : ∃ x, x = xs.getD k 0 := ⟨_, rfl⟩
        rw [← hx] at hck
        have hcs := count_snoc (fun x => x == 0) xs k (by rw [Hn.out]; exact hl) x hx
        rw [show (xs.take k).countP (fun x => x == 0) = q from HQ.out.symm] at hcs
        clear hx
        by_cases h0 : x = 0
        · subst h0
          have HQ2 : Hid (q + 1 = fineN (xs.take (k + 1))) := Lib.hid hcs.symm
          clear hcs
          go_wp2_with fail
          go_round
          case rel => exact ⟨k + 1, q + 1, by omega, by omega, by go_num, by go_num, HQ2⟩
          case measure => simp [intOf]; omega
        · have hb : (x == 0) = false := beq_eq_false_iff_ne.2 h0
          simp only [hb] at hcs
          have HQ2 : Hid (q = fineN (xs.take (k + 1))) := Lib.hid hcs.symm
          clear hcs h0
          go_wp2_with fail
          go_round
          case rel => exact ⟨k + 1, q, by omega, by omega, by go_num, rfl, HQ2⟩
          case measure => simp [intOf]; omega
      · obtain rfl : k = n := by omega
        have hX2 : X = q := by rw [HX.out, HQ.out, List.take_of_length_le (by rw [Hn.out]; omega)]
        subst hX2
        clear HX
        go_wp2_with fail
        go_ret
        exact ⟨rfl, rfl⟩

set_option maxHeartbeats 1000000 in
theorem rothers_any (w : World) (v : Value) (xs : List Int) (hv : IntsR w v xs) (hm : xs.length ≤ 1000000) (X : Nat) (hX : X = otherN xs) : Calls Tryd.prog 20 #[v] w fun e w' => e = .returned (.int .i64 (X : Int)) ∧ Below w.heap.size w w' := by
  obtain ⟨_, A, c, rfl, h⟩ := hv
  rcases h with rfl | ⟨ad, rfl, hlt, hc⟩
  · have hX0 : X = 0 := hX
    subst hX0
    clear hX
    have HS := Lib.hid (Since.refl w)
    go_enter Tryd.func20, Tryd.ntmps20
    go_wp2_with fail
    go_loop [3, 4] (fun s i => s = .int .i64 0 ∧ i = .int .i64 0) (fun _ _ => 0)
    case atStart => exact ⟨rfl, rfl⟩
    case round =>
      obtain ⟨rfl, rfl⟩ := hrel
      go_wp2_with fail
      go_ret
      exact ⟨rfl, HS.out⟩
  · obtain ⟨n, hn⟩ : ∃ n, xs.length = n := ⟨_, rfl⟩
    rw [hn] at hc hm ⊢
    have HLT := Lib.hid hlt
    clear hlt
    have Hc := Lib.hid hc
    clear hc
    have HX := Lib.hid hX
    clear hX
    have Hn := Lib.hid hn
    clear hn
    go_enter Tryd.func20, Tryd.ntmps20
    go_wp2_with fail
    go_loopw [3, 4] (fun s i wr => ∃ k q : Nat, k ≤ n ∧ q ≤ k ∧ i = .int .i64 (k : Int) ∧ s = .int .i64 (q : Int) ∧ Hid (q = otherN (xs.take k)) ∧ Hid (Since w wr)) (fun _ i _ => n - (intOf i).toNat)
    case atStart => exact ⟨0, 0, by omega, by omega, rfl, rfl, Lib.hid rfl, Lib.hid (Since.refl w)⟩
    case round =>
      obtain ⟨k, q, hk, hq, rfl, rfl, HQ, HS⟩ := hrel
      by_cases hl : k < n
      · have hck := (HS.out.below.cell (p := ad.add k) (by rw [show (ad.add k).block = ad.block from by unfold Addr.add; split <;> rfl]; exact HLT.out)).trans (Hc.out k hl)
        obtain ⟨x, hx⟩ : ∃ x, x = xs.getD k 0 := ⟨_, rfl⟩
        rw [← hx] at hck
        have hcs := count_snoc (fun x => decide (0 < x ∧ x < 18)) xs k (by rw [Hn.out]; exact hl) x hx
        rw [show (xs.take k).countP (fun x => decide (0 < x ∧ x < 18)) = q from HQ.out.symm] at hcs
        clear hx
        by_cases h0 : x = 0
        · subst h0
          have HQ2 : Hid (q = otherN (xs.take (k + 1))) := Lib.hid hcs.symm
          clear hcs
          go_wp2_with fail
          go_roundw
          case rel => exact ⟨k + 1, q, by omega, by omega, by go_num, rfl, HQ2, HS⟩
          case measure => simp [intOf]; omega
        · have hb : (x != 0) = true := bne_iff_ne.2 h0
          by_cases h1 : 0 ≤ x ∧ x < 18
          · obtain ⟨h1, h2⟩ := h1
            obtain ⟨e, rfl⟩ := Int.eq_ofNat_of_zero_le h1
            have c1 := rname_in e (by omega) _ rfl
            have hpos : 0 < (bs (tabN.getD e [])).size := by
              have hall : ∀ i, i < 18 → 0 < (bs (tabN.getD i [])).size := by decide
              exact hall e (by omega)
            have hne := some_bytes _ hpos
            rw [decide_eq_true (by omega)] at hcs
            have HQ2 : Hid (q + 1 = otherN (xs.take (k + 1))) := Lib.hid hcs.symm
            generalize bs (tabN.getD e []) = X1 at c1 hne
            clear hcs h0 hpos
            go_wp2_with fail
            refine c1.calls HS.out ?_
            intro w2 hS2
            have HS2 := Lib.hid hS2
            clear hS2
            go_wp2_with fail
            go_roundw
            case rel => exact ⟨k + 1, q + 1, by omega, by omega, by go_num, by go_num, HQ2, HS2⟩
            case measure => simp [intOf]; omega
          · have c1 := rname_out x h1
            rw [decide_eq_false (by omega)] at hcs
            have HQ2 : Hid (q = otherN (xs.take (k + 1))) := Lib.hid hcs.symm
            clear hcs h0 h1
            go_wp2_with fail
            refine c1.calls HS.out ?_
            intro w2 hS2
            have HS2 := Lib.hid hS2
            clear hS2
            go_wp2_with fail
            go_roundw
            case rel => exact ⟨k + 1, q, by omega, by omega, by go_num, rfl, HQ2, HS2⟩
            case measure => simp [intOf]; omega
      · obtain rfl : k = n := by omega
        have hX2 : X = q := by rw [HX.out, HQ.out, List.take_of_length_le (by rw [Hn.out]; omega)]
        subst hX2
        clear HX
        go_wp2_with fail
        go_ret
        exact ⟨rfl, HS.out⟩

/-- the bits of a float64 that is a whole number -/
def fl (n : Nat) : Nat := FloatKind.f64.nearest (n : Int)
theorem fl_all : (List.range 101).all (fun n => floatBits .add .f64 (fl n) 4607182418800017408 == some (fl (n + 1)) && floatBits .add .f64 (fl n) 0 == some (fl n) && FloatKind.f64.format.order (fl n) (fl n) == some .eq) = true := by decide +kernel
theorem fl_at (n : Nat) (h : n ≤ 100) : floatBits .add .f64 (fl n) 4607182418800017408 = some (fl (n + 1)) ∧ floatBits .add .f64 (fl n) 0 = some (fl n) ∧ (FloatKind.f64.format.order (fl n) (fl n) == some .eq) = true := by
  have := List.all_eq_true.1 fl_all n (List.mem_range.2 (by omega))
  simp only [Bool.and_eq_true, beq_iff_eq] at this
  exact ⟨this.1.1, this.1.2, by rw [this.2]; rfl⟩
theorem fl_0 : fl 0 = 0 := by decide +kernel
theorem csum_re (a b : Nat) (ha : a ≤ 100) (hb : b ≤ 100) : cSumBits .add .f64 (fl a) (fl b) 4607182418800017408 0 = some (fl (a + 1), fl b) := by
  unfold cSumBits; rw [(fl_at a ha).1, (fl_at b hb).2.1]; rfl
theorem csum_im (a b : Nat) (ha : a ≤ 100) (hb : b ≤ 100) : cSumBits .add .f64 (fl a) (fl b) 0 4607182418800017408 = some (fl a, fl (b + 1)) := by
  unfold cSumBits; rw [(fl_at a ha).2.1, (fl_at b hb).1]; rfl

set_option maxHeartbeats 1000000 in
theorem count_any (w : World) (v : Value) (xs : List Int) (hv : IntsR w v xs) (hm : xs.length ≤ 100) (X Y : Nat) (hX : X = fineN xs) (hY : Y = otherN xs) : Calls Tryd.prog 18 #[v] w fun e w' => e = .returned (.complex .f64 (fl X) (fl Y)) ∧ w = w' := by
  obtain ⟨_, A, c, rfl, h⟩ := hv
  rcases h with rfl | ⟨ad, rfl, hlt, hc⟩
  · have hX0 : X = 0 := hX
    have hY0 : Y = 0 := hY
    subst hX0 hY0
    rw [fl_0]
    clear hX hY
    go_enter Tryd.func18, Tryd.ntmps18
    go_wp2_with fail
    go_loop [3, 8] (fun s i => s = .complex .f64 0 0 ∧ i = .int .i64 0) (fun _ _ => 0)
    case atStart => exact ⟨rfl, rfl⟩
    case round =>
      obtain ⟨rfl, rfl⟩ := hrel
      go_wp2_with fail
      go_ret
      exact ⟨rfl, rfl⟩
  · obtain ⟨n, hn⟩ : ∃ n, xs.length = n := ⟨_, rfl⟩
    rw [hn] at hc hm ⊢
    have Hc := Lib.hid hc
    clear hc
    have HX := Lib.hid hX
    clear hX
    have HY := Lib.hid hY
    clear hY
    have Hn := Lib.hid hn
    clear hn
    go_enter Tryd.func18, Tryd.ntmps18
    go_wp2_with fail
    go_loop [3, 8] (fun s i => ∃ k p q : Nat, k ≤ n ∧ p ≤ k ∧ q ≤ k ∧ i = .int .i64 (k : Int) ∧ s = .complex .f64 (fl p) (fl q) ∧ Hid (p = fineN (xs.take k)) ∧ Hid (q = otherN (xs.take k))) (fun _ i => n - (intOf i).toNat)
    case atStart => exact ⟨0, 0, 0, by omega, by omega, by omega, rfl, by rw [fl_0], Lib.hid rfl, Lib.hid rfl⟩
    case round =>
      obtain ⟨k, p, q, hk, hp, hq, rfl, rfl, HP, HQ⟩ := hrel
      by_cases hl : k < n
      · have hck := Hc.out k hl
        obtain ⟨x, hx⟩ : ∃ x, x = xs.getD k 0 := ⟨_, rfl⟩
        rw [← hx] at hck
        have hcs := count_snoc (fun x => decide (0 < x ∧ x < 18)) xs k (by rw [Hn.out]; exact hl) x hx
        have hds := count_snoc (fun x => x == 0) xs k (by rw [Hn.out]; exact hl) x hx
        rw [show (xs.take k).countP (fun x => decide (0 < x ∧ x < 18)) = q from HQ.out.symm] at hcs
        rw [show (xs.take k).countP (fun x => x == 0) = p from HP.out.symm] at hds
        have g1 := csum_re p q (by omega) (by omega)
        have g2 := csum_im p q (by omega) (by omega)
        obtain ⟨a, ha⟩ : ∃ a, a = fl p := ⟨_, rfl⟩
        obtain ⟨b, hb⟩ : ∃ b, b = fl q := ⟨_, rfl⟩
        obtain ⟨a', ha'⟩ : ∃ a, a = fl (p + 1) := ⟨_, rfl⟩
        obtain ⟨b', hb'⟩ : ∃ b, b = fl (q + 1) := ⟨_, rfl⟩
        rw [← ha, ← hb, ← ha'] at g1
        rw [← ha, ← hb, ← hb'] at g2
        have s1 := fun (W : World) (t : TypeId) => run_complex_sum (P := Tryd.prog) W .add (Or.inl rfl) t .f64 _ _ _ _ _ _ g1
        have s2 := fun (W : World) (t : TypeId) => run_complex_sum (P := Tryd.prog) W .add (Or.inl rfl) t .f64 _ _ _ _ _ _ g2
        rw [← ha, ← hb]
        clear hx g1 g2
        have Ha := Lib.hid ha
        clear ha
        have Hb := Lib.hid hb
        clear hb
        have Ha' := Lib.hid ha'
        clear ha'
        have Hb' := Lib.hid hb'
        clear hb'
        by_cases h0 : x = 0
        · subst h0
          have HQ2 : Hid (q = otherN (xs.take (k + 1))) := Lib.hid hcs.symm
          have HP2 : Hid (p + 1 = fineN (xs.take (k + 1))) := Lib.hid hds.symm
          clear hcs hds s2
          go_wp2_with fail
          go_round
          case rel => exact ⟨k + 1, p + 1, q, by omega, by omega, by omega, by go_num, by rw [Ha'.out, Hb.out], HP2, HQ2⟩
          case measure => simp [intOf]; omega
        · have hb0 : (x == 0) = false := beq_eq_false_iff_ne.2 h0
          simp only [hb0] at hds
          have HP2 : Hid (p = fineN (xs.take (k + 1))) := Lib.hid hds.symm
          by_cases h1 : 0 ≤ x ∧ x < 18
          · have c1 := known_ret x true (by rw [decide_eq_true h1])
            rw [decide_eq_true (by omega)] at hcs
            have HQ2 : Hid (q + 1 = otherN (xs.take (k + 1))) := Lib.hid hcs.symm
            clear hcs hds h0 h1 s1
            go_wp2_with fail
            refine (c1).calls ?_
            go_wp2_with fail
            go_round
            case rel => exact ⟨k + 1, p, q + 1, by omega, by omega, by omega, by go_num, by rw [Ha.out, Hb'.out], HP2, HQ2⟩
            case measure => simp [intOf]; omega
          · have c1 := known_ret x false (by rw [decide_eq_false h1])
            rw [decide_eq_false (by omega)] at hcs
            have HQ2 : Hid (q = otherN (xs.take (k + 1))) := Lib.hid hcs.symm
            clear hcs hds h0 h1 s1 s2
            go_wp2_with fail
            refine (c1).calls ?_
            go_wp2_with fail
            go_round
            case rel => exact ⟨k + 1, p, q, by omega, by omega, by omega, by go_num, by rw [Ha.out, Hb.out], HP2, HQ2⟩
            case measure => simp [intOf]; omega
      · obtain rfl : k = n := by omega
        have hX2 : X = p := by rw [HX.out, HP.out, List.take_of_length_le (by rw [Hn.out]; omega)]
        have hY2 : Y = q := by rw [HY.out, HQ.out, List.take_of_length_le (by rw [Hn.out]; omega)]
        subst hX2 hY2
        clear HX HY
        go_wp2_with fail
        go_ret
        exact ⟨rfl, rfl⟩

set_option maxHeartbeats 1000000 in
theorem index_at (w : World) (v : Value) (xs : List Int) (hv : IntsR w v xs) (hm : xs.length ≤ 1000000) (j : Nat) (hj : j < xs.length) (x : Int) (hx : xs.getD j 0 = x) (hno : ∀ i, i < j → xs.getD i 0 ≠ x) : Calls Tryd.prog 26 #[v, .int .i64 x] w fun e w' => e = .returned (.int .i64 (j : Int)) ∧ w = w' := by
  obtain ⟨_, A, c, rfl, h⟩ := hv
  rcases h with rfl | ⟨ad, rfl, hlt, hc⟩
  · simp at hj
  · obtain ⟨n, hn⟩ : ∃ n, xs.length = n := ⟨_, rfl⟩
    rw [hn] at hc hm hj ⊢
    have Hc := Lib.hid hc
    clear hc
    have Hno := Lib.hid hno
    clear hno
    have Hx := Lib.hid hx
    clear hx
    have Hn := Lib.hid hn
    clear hn
    go_enter Tryd.func26, Tryd.ntmps26
    go_wp2_with fail
    go_loop [8] (fun i => ∃ k : Nat, k ≤ j ∧ i = .int .i64 (k : Int)) (fun i => n - (intOf i).toNat)
    case atStart => exact ⟨0, by omega, rfl⟩
    case round =>
      obtain ⟨k, hk, rfl⟩ := hrel
      have hl : k < n := by omega
      have hck := Hc.out k hl
      by_cases h : k = j
      · subst h
        rw [Hx.out] at hck
        go_wp2_with fail
        go_ret
        exact ⟨rfl, rfl⟩
      · obtain ⟨y, hy⟩ : ∃ y, y = xs.getD k 0 := ⟨_, rfl⟩
        have hb : (x == y) = false := beq_eq_false_iff_ne.2 (fun h2 => Hno.out k (by omega) (by rw [← hy, h2]))
        rw [← hy] at hck
        clear hy
        go_wp2_with fail
        go_round
        case rel => exact ⟨k + 1, by omega, by go_num⟩
        case measure => simp [intOf]; omega
theorem contains_at (w : World) (v : Value) (xs : List Int) (hv : IntsR w v xs) (hm : xs.length ≤ 1000000) (j : Nat) (hj : j < xs.length) (x : Int) (hx : xs.getD j 0 = x) (hno : ∀ i, i < j → xs.getD i 0 ≠ x) : Calls Tryd.prog 23 #[v, .int .i64 x] w fun e w' => e = .returned (.bool true) ∧ w = w' := by
  have c1 := index_at w v xs hv hm j hj x hx hno
  clear hv hx hno
  go_enter Tryd.func23, Tryd.ntmps23
  go_wp2_with fail
  refine c1.mono ?_
  rintro e w' ⟨rfl, rfl⟩
  go_wp2_with fail
  go_ret
  exact ⟨rfl, rfl⟩

set_option maxHeartbeats 4000000 in
theorem awake_k : KMak 6 #[] (.bool true) := by
  intro w hT
  have H0 := Lib.hid (Since.refl w)
  have HT := Lib.hid hT
  clear hT
  have c1 := by_any ⟨#[104, 101, 97, 100, 101, 114]⟩ (by decide)
  rw [show placeN (⟨#[104, 101, 97, 100, 101, 114]⟩ : ByteArray).data.toList = some 12 from by decide] at c1
  have c2 := name_in 7 (by decide) ⟨#[115, 117, 109]⟩ (by decide)
  have c3 := class_in 12 (by decide) 2 (by decide)
  have c4 := told_ret 0 true true (by decide)
  have c5 := told_ret 7 true false (by decide)
  go_enter Tryd.func6, Tryd.ntmps6
  go_wp2_with fail
  refine c1.calls HT.out H0.out ?_
  intro w1 h1
  have H1 := Lib.hid h1
  clear h1
  go_wp2_with fail
  refine c2.calls HT.out H1.out ?_
  intro w2 h2
  have H2 := Lib.hid h2
  clear h2
  go_wp2_with fail
  refine c3.calls HT.out H2.out ?_
  intro w3 h3
  have H3 := Lib.hid h3
  clear h3
  go_wp2_with fail
  refine all_mak.calls H3.out ?_
  intro v w4 hv hb h4
  obtain ⟨_, A, c, rfl, _⟩ := hv
  have Hb := Lib.hid hb
  clear hb
  have H4 := Lib.hid h4
  clear h4
  have hl : all18.length = 18 := rfl
  rw [hl]
  go_wp2_with fail
  refine (c4).calls ?_
  go_wp2_with fail
  refine (c5).calls ?_
  go_wp2_with fail
  refine (first_any _ _ [0, 3] (IntsR.lit w4 [0, 3] 2 rfl (by decide) _ rfl _) (by decide) 3 (by decide)).mono ?_
  rintro e w5 ⟨rfl, rfl⟩
  go_wp2_with fail
  go_ret
  exact ⟨rfl, H4.out.alloc _⟩
end Fault
end Go.Proofs.YtcdjpdncgaeinaaDoor
