/- Joined texts. -/
-- PACK: YtgfdomdbjiflmaaDoorShorts
import Derived.Test.YtgfdomdbjiflmaaDoorDj14
import Derived.IntWalk

/- What several laws ask of strings: clavigerplain.Shorts. -/
namespace Go.Proofs.YtgfdomdbjiflmaaDoor
open Go.RowKit
namespace Plain
def shortB (m : Nat) (s : ByteArray) : Bool := decide (s.size ≤ m)
def shortsB (l : List ByteArray) (n m : Nat) : Bool := decide (l.length ≤ n) && l.all (shortB m)
theorem shortsB_spec (l : List ByteArray) (n m : Nat) (h : shortsB l n m = true) : l.length ≤ n ∧ ∀ s ∈ l, s.size ≤ m := by
  unfold shortsB at h
  rw [Bool.and_eq_true, List.all_eq_true] at h
  exact ⟨of_decide_eq_true h.1, fun s hs => of_decide_eq_true (h.2 s hs)⟩
def RdSh (l : List ByteArray) (n m : Nat) (q : Bool) : Prop := ∀ w x, StrsS w x l → Calls Tryd.prog 27 #[x, .int .i64 (n : Int), .int .i64 (m : Int)] w fun e w' => e = .returned (.bool q) ∧ w = w'
set_option maxRecDepth 100000 in
theorem RdSh.calls {l : List ByteArray} {n m : Nat} {q : Bool} (h : RdSh l n m q) {w : World} {x : Value} (hx : StrsS w x l) {R : Ending → World → Prop} (k : R (.returned (.bool q)) w) : Calls Tryd.prog 27 #[x, .int .i64 (n : Int), .int .i64 (m : Int)] w R :=
  (h w x hx).mono fun _ _ ⟨he, hw⟩ => by subst he; subst hw; exact k
set_option maxRecDepth 100000 in
theorem shorts_many (l : List ByteArray) (n m : Nat) (h : n < l.length) : RdSh l n m false := by
  intro w x hx
  have hle := SlR.le hx
  obtain ⟨A, c, rfl, _⟩ := SlR.slice hx
  obtain ⟨k, hk⟩ : ∃ k, k = l.length := ⟨_, rfl⟩
  rw [← hk] at h ⊢
  have t1 : decide (n < k) = true := decide_eq_true h
  clear hx hk hle
  go_enter Tryd.func27, Tryd.ntmps27
  go_wp2_with fail
  go_ret
  exact ⟨rfl, rfl⟩
set_option maxRecDepth 100000 in
theorem shorts_nil (n m : Nat) : RdSh [] n m true := by
  intro w x hx
  obtain ⟨A, c, rfl, _⟩ := SlR.empty hx rfl
  have t1 : decide ((n : Int) < 0) = false := decide_eq_false (by omega)
  clear hx
  go_enter Tryd.func27, Tryd.ntmps27
  go_wp2_with fail
  go_loop [7] (fun i => i = .int .i64 0) (fun i => 0 - (intOf i).toNat)
  case atStart => rfl
  case round =>
    subst hrel
    go_wp2_with fail
    go_ret
    exact ⟨rfl, rfl⟩
set_option maxRecDepth 100000 in
set_option maxHeartbeats 2000000 in
theorem shorts_rd (l : List ByteArray) (n m : Nat) (q : Bool) (hq : q = shortsB l n m) : RdSh l n m q := by
  by_cases hbig : n < l.length
  · have : q = false := by rw [hq]; unfold shortsB; rw [decide_eq_false (by omega)]; rfl
    subst this
    exact shorts_many l n m hbig
  by_cases h0 : l.length = 0
  · obtain rfl := List.length_eq_zero_iff.1 h0
    have : q = true := by rw [hq]; unfold shortsB; simp
    subst this
    exact shorts_nil n m
  intro w x hx
  have hle := SlR.le hx
  obtain ⟨b, o, c, rfl, h1, h2, h3, h4⟩ := SlR.form hx (by omega)
  have hq2 : q = l.all (shortB m) := by rw [hq]; unfold shortsB; rw [decide_eq_true (by omega)]; rfl
  obtain ⟨k0, hk0⟩ : ∃ k, k = l.length := ⟨_, rfl⟩
  rw [← hk0] at h1 h0 hbig hle ⊢
  have t1 : decide (n < k0) = false := decide_eq_false hbig
  have HC := Lib.hid (fun i s (hs : l[i]? = some s) => h4 i _ (show (l.map Value.string)[i]? = some (.string s) by rw [List.getElem?_map, hs]; rfl))
  have HN := Lib.hid hk0
  have HQ := Lib.hid hq2
  clear h4 hx hk0 hq hq2
  go_enter Tryd.func27, Tryd.ntmps27
  go_wp2_with fail
  go_loop [7] (fun i => ∃ k : Nat, k ≤ k0 ∧ i = .int .i64 (k : Int) ∧ Hid ((l.take k).all (shortB m) = true)) (fun i => k0 - (intOf i).toNat)
  case atStart => exact ⟨0, by omega, rfl, Lib.hid rfl⟩
  case round =>
    obtain ⟨k, hk, rfl, HA⟩ := hrel
    by_cases hlt : k < k0
    · obtain ⟨s, hs⟩ : ∃ s, l[k]? = some s := ⟨l[k]'(by rw [← HN.out]; exact hlt), List.getElem?_eq_getElem _⟩
      have m0 := HC.out k s hs
      have i1 : (0 : Int) ≤ (k : Int) := by omega
      have i2 : (k : Int) < (k0 : Int) := by omega
      have HA2 : Hid ((l.take (k + 1)).all (shortB m) = shortB m s) := Lib.hid (by
        obtain ⟨g1, g2⟩ := List.getElem?_eq_some_iff.1 hs
        rw [List.take_succ_eq_append_getElem g1, g2, List.all_append, HA.out]; simp)
      have HM := Lib.hid (List.mem_of_getElem? hs)
      clear hs
      by_cases hz : s.size ≤ m
      · have t2 : decide (m < s.size) = false := decide_eq_false (by omega)
        have HA3 : Hid ((l.take (k + 1)).all (shortB m) = true) := Lib.hid (by rw [HA2.out]; exact decide_eq_true hz)
        clear HA2
        go_wp2_with fail
        go_round
        case rel => exact ⟨k + 1, by omega, by go_num, HA3⟩
        case measure => simp [intOf]; omega
      · have t2 : decide (m < s.size) = true := decide_eq_true (by omega)
        have hqf : q = false := by
          rw [HQ.out, List.all_eq_false]
          exact ⟨_, HM.out, by unfold shortB; rw [decide_eq_false hz]; decide⟩
        subst hqf
        go_wp2_with fail
        go_ret
        exact ⟨rfl, rfl⟩
    · obtain rfl : k0 = k := by omega
      have hqt : q = true := by rw [HQ.out]; have h9 := HA.out; rw [HN.out, List.take_length] at h9; exact h9
      subst hqt
      go_wp2_with fail
      go_ret
      exact ⟨rfl, rfl⟩
end Plain
end Go.Proofs.YtgfdomdbjiflmaaDoor
