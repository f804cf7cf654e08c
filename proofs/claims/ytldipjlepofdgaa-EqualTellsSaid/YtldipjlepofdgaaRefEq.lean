/- The reference of package equal. -/
import Derived.Test.YtldipjlepofdgaaEq4
namespace Go.Proofs.Ytldipjlepofdgaa
open Go.RowKit
namespace RefEql
open Eql

theorem df_in (a b : ByteArray) (k : Nat) (ha : k < a.size) (hb : k < b.size) : df a.data.toList b.data.toList k = a[k].toNat ^^^ b[k].toNat := by
  unfold df
  rw [if_pos ⟨ha, hb⟩, show a.data.toList.getD k 0 = a[k] from by simp [List.getD, List.getElem?_eq_getElem (show k < a.data.toList.length from ha)]; rfl, show b.data.toList.getD k 0 = b[k] from by simp [List.getD, List.getElem?_eq_getElem (show k < b.data.toList.length from hb)]; rfl]
theorem df_out (a b : ByteArray) (k : Nat) (h : ¬ (k < a.size ∧ k < b.size)) : df a.data.toList b.data.toList k = 255 := by
  unfold df
  rw [if_neg (show ¬ (k < a.data.toList.length ∧ k < b.data.toList.length) from h)]
theorem xor_ne (x y : Nat) : x ^^^ y = 0 ↔ x = y := by
  constructor
  · intro h
    have h2 : x ^^^ y ^^^ y = y := by rw [h, Nat.zero_xor]
    rwa [Nat.xor_assoc, Nat.xor_self, Nat.xor_zero] at h2
  · rintro rfl; exact Nat.xor_self x

set_option maxRecDepth 100000 in
set_option maxHeartbeats 4000000 in
theorem unlike_any (a b : ByteArray) (hm : a.size ≤ 140737488355328) (hm2 : b.size ≤ 140737488355328) (n : Nat) (hn : n = max a.size b.size) (X : Int) (hX : X = (unl a.data.toList b.data.toList n : Nat)) : Mak 53 #[.string a, .string b] (.int .i64 X) := by
  intro w
  have hna : a.size ≤ n := by omega
  have hnb : b.size ≤ n := by omega
  have hnn : n ≤ 140737488355328 := by omega
  have hmx : n ≤ a.size ∨ n ≤ b.size := by omega
  have HX := Lib.hid hX
  clear hX
  have Hn := Lib.hid hn
  clear hn
  go_enter Try.func53, Try.ntmps53
  go_wp2_with fail
  go_loopw [5, 6] (fun c i wr => ∃ k : Nat, k ≤ n ∧ i = .int .i64 (k : Int) ∧ c = .int .i64 ((unl a.data.toList b.data.toList k : Nat) : Int) ∧ Hid (Since w wr)) (fun _ i _ => n - (intOf i).toNat)
  case atStart => exact ⟨0, by omega, rfl, rfl, Lib.hid (Since.refl w)⟩
  case round =>
    obtain ⟨k, hk, rfl, rfl, HS⟩ := hrel
    have hul := unl_le a.data.toList b.data.toList k
    by_cases hlt : k < n
    · by_cases hka : k < a.size
      · by_cases hkb : k < b.size
        · have hd := df_in a b k hka hkb
          have h1 := a[k].toNat_lt
          have h2 := b[k].toNat_lt
          have n1 : ¬ (a.size ≤ k) := by omega
          have n2 : ¬ (b.size ≤ k) := by omega
          by_cases he : a[k].toNat = b[k].toNat
          · have hd0 : df a.data.toList b.data.toList k = 0 := by rw [hd, he]; exact Nat.xor_self _
            have hb1 : ((a[k].toNat : Int) != (b[k].toNat : Int)) = false := by rw [he]; simp
            have Hd := Lib.hid hd
            clear hd
            clear he
            have hu : unl a.data.toList b.data.toList (k + 1) = unl a.data.toList b.data.toList k := by
              show unl a.data.toList b.data.toList k + _ = _
              rw [if_pos hd0]; rfl
            have Hu := Lib.hid hu
            clear hu
            have Hd0 := Lib.hid hd0
            clear hd0
            go_wp2_with fail
            go_quiet (fail)
            go_wp2_with fail
            go_roundw
            case rel => exact ⟨k + 1, by omega, by go_num, by rw [Hu.out], Lib.hid (since_drewN HS.out _)⟩
            case measure => simp [intOf]; omega
          · have hd0 : df a.data.toList b.data.toList k ≠ 0 := by rw [hd]; exact fun h => he ((xor_ne _ _).1 h)
            have hb1 : ((a[k].toNat : Int) != (b[k].toNat : Int)) = true := by rw [bne_iff_ne]; omega
            have Hd := Lib.hid hd
            clear hd
            clear he
            have hu : unl a.data.toList b.data.toList (k + 1) = unl a.data.toList b.data.toList k + 1 := by
              show unl a.data.toList b.data.toList k + _ = _
              rw [if_neg hd0]
            have Hu := Lib.hid hu
            clear hu
            have Hd0 := Lib.hid hd0
            clear hd0
            go_wp2_with fail
            go_quiet (fail)
            go_wp2_with fail
            go_roundw
            case rel => exact ⟨k + 1, by omega, by go_num, by rw [Hu.out]; go_num, Lib.hid (since_drewN HS.out _)⟩
            case measure => simp [intOf]; omega
        · have hd0 : df a.data.toList b.data.toList k ≠ 0 := by rw [df_out a b k (fun h => hkb h.2)]; decide
          have n1 : ¬ (a.size ≤ k) := by omega
          have n2 : b.size ≤ k := by omega
          have hu : unl a.data.toList b.data.toList (k + 1) = unl a.data.toList b.data.toList k + 1 := by
            show unl a.data.toList b.data.toList k + _ = _
            rw [if_neg hd0]
          have Hu := Lib.hid hu
          clear hu
          have Hd0 := Lib.hid hd0
          clear hd0
          go_wp2_with fail
          go_quiet (fail)
          go_wp2_with fail
          go_roundw
          case rel => exact ⟨k + 1, by omega, by go_num, by rw [Hu.out]; go_num, Lib.hid (since_drewN HS.out _)⟩
          case measure => simp [intOf]; omega
      · have hkb : k < b.size := by omega
        have hd0 : df a.data.toList b.data.toList k ≠ 0 := by rw [df_out a b k (fun h => hka h.1)]; decide
        have n1 : a.size ≤ k := by omega
        have hu : unl a.data.toList b.data.toList (k + 1) = unl a.data.toList b.data.toList k + 1 := by
          show unl a.data.toList b.data.toList k + _ = _
          rw [if_neg hd0]
        have Hu := Lib.hid hu
        clear hu
        have Hd0 := Lib.hid hd0
        clear hd0
        go_wp2_with fail
        go_quiet (fail)
        go_wp2_with fail
        go_roundw
        case rel => exact ⟨k + 1, by omega, by go_num, by rw [Hu.out]; go_num, Lib.hid (since_drewN HS.out _)⟩
        case measure => simp [intOf]; omega
    · have hkn : k = n := by omega
      have m1 : ¬ k < a.size := by omega
      have m2 : ¬ k < b.size := by omega
      have hxx : X = (unl a.data.toList b.data.toList k : Nat) := by rw [HX.out, hkn]
      subst hxx
      clear hmx hkn
      go_wp2_with fail
      go_ret
      exact ⟨rfl, HS.out⟩

theorem fst_stay (a b : List UInt8) (k i : Nat) (h : fst a b k = (i : Int)) (n : Nat) (hn : k ≤ n) : fst a b n = (i : Int) := by
  induction n with
  | zero => rw [show k = 0 by omega] at h; exact h
  | succ n ih =>
    by_cases hk : k = n + 1
    · rw [← hk]; exact h
    · have h2 := ih (by omega)
      show (if _ then _ else _) = _
      rw [if_neg (fun h3 => by rw [h2] at h3; omega), h2]
set_option maxRecDepth 100000 in
set_option maxHeartbeats 4000000 in
theorem first_any (a b : ByteArray) (hm : a.size ≤ 140737488355328) (hm2 : b.size ≤ 140737488355328) (n : Nat) (hn : n = max a.size b.size) (X : Int) (hX : X = fst a.data.toList b.data.toList n) : Mak 55 #[.string a, .string b] (.int .i64 X) := by
  intro w
  have hna : a.size ≤ n := by omega
  have hnb : b.size ≤ n := by omega
  have hnn : n ≤ 140737488355328 := by omega
  have hmx : n ≤ a.size ∨ n ≤ b.size := by omega
  have HX := Lib.hid hX
  clear hX
  have Hn := Lib.hid hn
  clear hn
  go_enter Try.func55, Try.ntmps55
  go_wp2_with fail
  go_loopw [5] (fun i wr => ∃ k : Nat, k ≤ n ∧ i = .int .i64 (k : Int) ∧ Hid (fst a.data.toList b.data.toList k = -1) ∧ Hid (Since w wr)) (fun i _ => n - (intOf i).toNat)
  case atStart => exact ⟨0, by omega, rfl, Lib.hid rfl, Lib.hid (Since.refl w)⟩
  case round =>
    obtain ⟨k, hk, rfl, HF, HS⟩ := hrel
    by_cases hlt : k < n
    · by_cases hka : k < a.size
      · by_cases hkb : k < b.size
        · have hd := df_in a b k hka hkb
          have h1 := a[k].toNat_lt
          have h2 := b[k].toNat_lt
          have n1 : ¬ (a.size ≤ k) := by omega
          have n2 : ¬ (b.size ≤ k) := by omega
          by_cases he : a[k].toNat = b[k].toNat
          · have hd0 : df a.data.toList b.data.toList k = 0 := by rw [hd, he]; exact Nat.xor_self _
            have hb1 : ((a[k].toNat : Int) != (b[k].toNat : Int)) = false := by rw [he]; simp
            have Hd := Lib.hid hd
            clear hd
            clear he
            have hu : fst a.data.toList b.data.toList (k + 1) = -1 := by
              show (if _ then _ else _) = _
              rw [if_neg (fun h => h.1 hd0), HF.out]
            have Hu := Lib.hid hu
            clear hu
            have Hd0 := Lib.hid hd0
            clear hd0
            go_wp2_with fail
            go_quiet (fail)
            go_wp2_with fail
            go_roundw
            case rel => exact ⟨k + 1, by omega, by go_num, Hu, Lib.hid (since_drewN HS.out _)⟩
            case measure => simp [intOf]; omega
          · have hd0 : df a.data.toList b.data.toList k ≠ 0 := by rw [hd]; exact fun h => he ((xor_ne _ _).1 h)
            have hb1 : ((a[k].toNat : Int) != (b[k].toNat : Int)) = true := by rw [bne_iff_ne]; omega
            have Hd := Lib.hid hd
            clear hd
            clear he
            have hu : fst a.data.toList b.data.toList (k + 1) = (k : Int) := by
              show (if _ then _ else _) = _
              rw [if_pos ⟨hd0, by rw [HF.out]; omega⟩]
            have hxx : X = (k : Int) := by rw [HX.out]; exact fst_stay a.data.toList b.data.toList (k + 1) k hu n (by omega)
            have Hu := Lib.hid hu
            clear hu
            have Hd0 := Lib.hid hd0
            clear hd0
            subst hxx
            go_wp2_with fail
            go_quiet (fail)
            go_wp2_with fail
            go_ret
            exact ⟨rfl, since_drewN HS.out _⟩
        · have hd0 : df a.data.toList b.data.toList k ≠ 0 := by rw [df_out a b k (fun h => hkb h.2)]; decide
          have n1 : ¬ (a.size ≤ k) := by omega
          have n2 : b.size ≤ k := by omega
          have hu : fst a.data.toList b.data.toList (k + 1) = (k : Int) := by
            show (if _ then _ else _) = _
            rw [if_pos ⟨hd0, by rw [HF.out]; omega⟩]
          have hxx : X = (k : Int) := by rw [HX.out]; exact fst_stay a.data.toList b.data.toList (k + 1) k hu n (by omega)
          have Hu := Lib.hid hu
          clear hu
          have Hd0 := Lib.hid hd0
          clear hd0
          subst hxx
          go_wp2_with fail
          go_quiet (fail)
          go_wp2_with fail
          go_ret
          exact ⟨rfl, since_drewN HS.out _⟩
      · have hkb : k < b.size := by omega
        have hd0 : df a.data.toList b.data.toList k ≠ 0 := by rw [df_out a b k (fun h => hka h.1)]; decide
        have n1 : a.size ≤ k := by omega
        have hu : fst a.data.toList b.data.toList (k + 1) = (k : Int) := by
          show (if _ then _ else _) = _
          rw [if_pos ⟨hd0, by rw [HF.out]; omega⟩]
        have hxx : X = (k : Int) := by rw [HX.out]; exact fst_stay a.data.toList b.data.toList (k + 1) k hu n (by omega)
        have Hu := Lib.hid hu
        clear hu
        have Hd0 := Lib.hid hd0
        clear hd0
        subst hxx
        go_wp2_with fail
        go_quiet (fail)
        go_wp2_with fail
        go_ret
        exact ⟨rfl, since_drewN HS.out _⟩
    · have hkn : k = n := by omega
      have m1 : ¬ k < a.size := by omega
      have m2 : ¬ k < b.size := by omega
      have hxx : X = -1 := by rw [HX.out, ← hkn]; exact HF.out
      subst hxx
      clear hmx hkn
      go_wp2_with fail
      go_ret
      exact ⟨rfl, HS.out⟩

set_option maxHeartbeats 2000000 in
theorem scan_any (a b : ByteArray) (hm : a.size ≤ 140737488355328) (hm2 : b.size ≤ 140737488355328) (n : Nat) (hn : n = max a.size b.size) (B : Bool) (hB : B = decide (unl a.data.toList b.data.toList n = 0)) : Mak 49 #[.string a, .string b] (.tuple #[.bool B, .int .i64 (n : Int)]) := by
  intro w
  have H0 := Lib.hid (Since.refl w)
  have c1 := unlike_any a b hm hm2 n hn _ rfl
  obtain ⟨u, hu⟩ : ∃ u, u = unl a.data.toList b.data.toList n := ⟨_, rfl⟩
  rw [← hu] at c1 hB
  have hb : ((u : Int) == 0) = B := by
    rw [hB, Bool.eq_iff_iff]
    simp
  have Hu := Lib.hid hu
  clear hu
  have HB := Lib.hid hB
  clear hB
  by_cases h : a.size < b.size
  · have e : n = b.size := by omega
    subst e
    clear hn
    go_enter Try.func49, Try.ntmps49
    go_wp2_with fail
    refine (c1).calls H0.out ?_
    intro w1 h1
    have H1 := Lib.hid h1
    clear h1
    go_wp2_with fail
    go_ret2
    exact ⟨rfl, H1.out⟩
  · have e : n = a.size := by omega
    subst e
    clear hn
    go_enter Try.func49, Try.ntmps49
    go_wp2_with fail
    refine (c1).calls H0.out ?_
    intro w1 h1
    have H1 := Lib.hid h1
    clear h1
    go_wp2_with fail
    go_ret2
    exact ⟨rfl, H1.out⟩

set_option maxRecDepth 100000 in
set_option maxHeartbeats 2000000 in
theorem nought_any (s : ByteArray) (hm : s.size ≤ 140737488355327) (B : Bool) (hB : B = decide (unl s.data.toList (zs s.data.toList) s.size = 0)) : Ret 51 #[.string s] (.tuple #[.bool B, .int .i64 (s.size : Int)]) := by
  intro w
  have HB := Lib.hid hB
  clear hB
  go_enter Try.func51, Try.ntmps51
  go_wp2_with fail
  go_loop [4, 5] (fun y i => ∃ (k : Nat) (b : Bool), k ≤ s.size ∧ i = .int .i64 (k : Int) ∧ y = .bool b ∧ Hid (b = decide (unl s.data.toList (zs s.data.toList) k = 0))) (fun _ i => s.size - (intOf i).toNat)
  case atStart => exact ⟨0, true, by omega, rfl, rfl, Lib.hid rfl⟩
  case round =>
    obtain ⟨k, b, hk, rfl, rfl, Hb⟩ := hrel
    by_cases hlt : k < s.size
    · have hlt9 : k < s.data.toList.length := hlt
      have hd : df s.data.toList (zs s.data.toList) k = s[k].toNat := df_zs _ k hlt9
      have hu : unl s.data.toList (zs s.data.toList) (k + 1) = unl s.data.toList (zs s.data.toList) k + if s[k].toNat = 0 then 0 else 1 := by rw [← hd]; rfl
      have hc := s[k].toNat_lt
      by_cases h0 : s[k].toNat = 0
      · have hb1 : ((s[k].toNat : Int) != 0) = false := by rw [h0]; rfl
        rw [if_pos h0] at hu
        have Hu := Lib.hid hu
        clear hu
        have Hd := Lib.hid hd
        clear hd
        clear h0
        go_wp2_with fail
        go_round
        case rel => exact ⟨k + 1, b, by omega, by go_num, rfl, Lib.hid (by rw [Hb.out, Hu.out, Nat.add_zero])⟩
        case measure => simp [intOf]; omega
      · have hb1 : ((s[k].toNat : Int) != 0) = true := by rw [bne_iff_ne]; omega
        rw [if_neg h0] at hu
        have Hu := Lib.hid hu
        clear hu
        have Hd := Lib.hid hd
        clear hd
        clear h0
        go_wp2_with fail
        go_round
        case rel => exact ⟨k + 1, false, by omega, by go_num, rfl, Lib.hid (by rw [Hu.out]; exact (decide_eq_false (by omega)).symm)⟩
        case measure => simp [intOf]; omega
    · obtain rfl : k = s.size := by omega
      have hbB : b = B := by rw [HB.out, Hb.out]
      subst hbB
      go_wp2_with fail
      go_ret2
      exact ⟨rfl, rfl⟩

set_option maxHeartbeats 1000000 in
theorem pick_any (yes : Bool) (a b X : ByteArray) (hX : X = if a.size ≠ b.size then ⟨#[]⟩ else if yes = true then a else b) : Ret 57 #[.bool yes, .string a, .string b] (.string X) := by
  intro w
  by_cases h : a.size = b.size
  · rw [if_neg (fun h2 => h2 h)] at hX
    have hb : ((a.size : Int) != (b.size : Int)) = false := by rw [h]; simp
    clear h
    cases yes with
    | true =>
      rw [if_pos rfl] at hX
      subst hX
      go_enter Try.func57, Try.ntmps57
      go_wp2_with fail
      go_ret
      exact ⟨rfl, rfl⟩
    | false =>
      rw [if_neg (by decide)] at hX
      subst hX
      go_enter Try.func57, Try.ntmps57
      go_wp2_with fail
      go_ret
      exact ⟨rfl, rfl⟩
  · rw [if_pos h] at hX
    subst hX
    have hb : ((a.size : Int) != (b.size : Int)) = true := by rw [bne_iff_ne]; omega
    clear h
    go_enter Try.func57, Try.ntmps57
    go_wp2_with fail
    go_ret
    exact ⟨rfl, rfl⟩
end RefEql
end Go.Proofs.Ytldipjlepofdgaa
