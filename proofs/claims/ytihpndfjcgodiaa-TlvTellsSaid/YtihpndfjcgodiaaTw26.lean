/- Joined texts. -/
-- PACK: YtihpndfjcgodiaaHeadR
import Derived.Test.YtihpndfjcgodiaaTw20
import Derived.BigQuiet

/- The walks of package head: what is read. -/
namespace Go.Proofs.Ytihpndfjcgodiaa
open Go.RowKit
namespace Head

theorem drop_cons (s : ByteArray) (i : Nat) (h : i < s.size) : s.data.toList.drop i = s[i] :: s.data.toList.drop (i + 1) := by
  rw [List.drop_eq_getElem_cons (show i < s.data.toList.length from h)]; rfl
theorem or_low8 (n : Int) (c : Nat) (hc : c < 256) (h1 : 0 ≤ n) (h2 : n ≤ 281474976710656) : bits .or .i64 (n * 256) (c : Int) = n * 256 + (c : Int) := by
  show IntKind.i64.wrap ((BitVec.ofInt 64 (n * 256) ||| BitVec.ofInt 64 (c : Int)).toNat : Int) = _
  rw [BitVec.toNat_or, BitVec.toNat_ofInt, BitVec.toNat_ofInt]
  obtain ⟨q, hq⟩ : ∃ q : Nat, ((n * 256) % ((2 ^ 64 : Nat) : Int)).toNat = 2 ^ 8 * q := ⟨((n * 256) % ((2 ^ 64 : Nat) : Int)).toNat / 2 ^ 8, by omega⟩
  have hcc : ((c : Int) % ((2 ^ 64 : Nat) : Int)).toNat = c := by omega
  rw [hq, hcc, ← Nat.two_pow_add_eq_or_of_lt (i := 8) (by omega), ← hq]
  simp only [IntKind.wrap, IntKind.bits, IntKind.signed]
  have h2p : ((2 ^ 64 : Nat) : Int) = 18446744073709551616 := by decide
  rw [h2p]
  clear hq hcc
  simp
  omega
theorem or_low7 (n : Int) (c : Nat) (hc : c < 128) (h1 : 0 ≤ n) (h2 : n ≤ 281474976710656) : bits .or .i64 (n * 128) (c : Int) = n * 128 + (c : Int) := by
  show IntKind.i64.wrap ((BitVec.ofInt 64 (n * 128) ||| BitVec.ofInt 64 (c : Int)).toNat : Int) = _
  rw [BitVec.toNat_or, BitVec.toNat_ofInt, BitVec.toNat_ofInt]
  obtain ⟨q, hq⟩ : ∃ q : Nat, ((n * 128) % ((2 ^ 64 : Nat) : Int)).toNat = 2 ^ 7 * q := ⟨((n * 128) % ((2 ^ 64 : Nat) : Int)).toNat / 2 ^ 7, by omega⟩
  have hcc : ((c : Int) % ((2 ^ 64 : Nat) : Int)).toNat = c := by omega
  rw [hq, hcc, ← Nat.two_pow_add_eq_or_of_lt (i := 7) (by omega), ← hq]
  simp only [IntKind.wrap, IntKind.bits, IntKind.signed]
  have h2p : ((2 ^ 64 : Nat) : Int) = 18446744073709551616 := by decide
  rw [h2p]
  clear hq hcc
  simp
  omega
theorem lenL_1 (n : Nat) (h : n < 128) : (bs (lenL n)).size = 1 := by rw [size_bs]; unfold lenL; rw [if_pos h]; rfl
theorem lenL_2 (n : Nat) (h : 128 ≤ n) (h2 : n < 256) : (bs (lenL n)).size = 2 := by rw [size_bs]; unfold lenL; rw [if_neg (by omega), if_pos h2]; rfl
theorem lenL_3 (n : Nat) (h : 256 ≤ n) : (bs (lenL n)).size = 3 := by rw [size_bs]; unfold lenL; rw [if_neg (by omega), if_neg (by omega)]; rfl
set_option maxRecDepth 100000 in
set_option maxHeartbeats 4000000 in
theorem rlen_mak (s : ByteArray) (hm : s.size ≤ 1000000) (n k e : Nat) (h : lenR s.data.toList = (n, k, e)) : Mak 74 #[.string s] (.tuple #[.int .i64 (n : Int), .int .i64 (k : Int), .int .i64 (e : Int)]) := by
  intro w
  have H0 := Lib.hid (Since.refl w)
  by_cases h0 : s.size = 0
  · obtain rfl : s = ⟨#[]⟩ := ba_ext (List.eq_nil_of_length_eq_zero h0)
    cases h
    clear hm h0
    go_enter Try.func74, Try.ntmps74
    go_wp2_with fail
    refine wp_scope_some 1 ?_
    go_wp2_with fail
    go_step3
    refine ⟨_, rfl, ?_⟩
    go_wp2_with fail
    go_ret3
    exact ⟨rfl, H0.out⟩
  · have hp : 0 < s.size := by omega
    rw [show s.data.toList = s[0] :: s.data.toList.drop 1 from drop_cons s 0 hp] at h
    have hne := some_bytes_f s hp
    have hlt := s[0].toNat_lt
    clear h0
    by_cases a1 : s[0].toNat = 128
    · have hv : lenR (s[0] :: s.data.toList.drop 1) = (0, 0, 5) := by unfold lenR; simp [a1]
      rw [hv] at h
      cases h
      have hz : (s[0].toNat : Int) = 128 := by omega
      clear hv
      go_enter Try.func74, Try.ntmps74
      go_wp2_with fail
      refine wp_scope_some 1 ?_
      go_wp2_with fail
      go_step3
      refine ⟨_, rfl, ?_⟩
      go_wp2_with fail
      go_ret3
      exact ⟨rfl, H0.out⟩
    · by_cases a2 : s[0].toNat < 128
      · have hv : lenR (s[0] :: s.data.toList.drop 1) = (s[0].toNat, 1, 0) := by unfold lenR; simp [a1, a2]
        rw [hv] at h
        cases h
        have hb : ((s[0].toNat : Int) == 128) = false := by rw [beq_eq_false_iff_ne]; omega
        clear hv a1
        go_enter Try.func74, Try.ntmps74
        go_wp2_with fail
        refine wp_scope_some 1 ?_
        go_wp2_with fail
        simp only [Exit.jumps]
        go_ret3
        exact ⟨rfl, H0.out⟩
      · have hb : ((s[0].toNat : Int) == 128) = false := by rw [beq_eq_false_iff_ne]; omega
        by_cases a3 : 130 < s[0].toNat
        · have hv : lenR (s[0] :: s.data.toList.drop 1) = (0, 0, 4) := by unfold lenR; simp [a1, a2, a3]
          rw [hv] at h
          cases h
          have hge : 128 ≤ s[0].toNat := by omega
          clear hv a1 a2
          go_enter Try.func74, Try.ntmps74
          go_wp2_with fail
          refine wp_scope_some 1 ?_
          go_wp2_with fail
          simp only [Exit.jumps]
          go_ret3
          exact ⟨rfl, H0.out⟩
        · by_cases a4 : s[0].toNat = 129
          · have hz : (s[0].toNat : Int) = 129 := by omega
            by_cases l1 : s.size ≤ 1
            · have hd : s.data.toList.drop 1 = [] := List.drop_eq_nil_of_le l1
              have hv : lenR (s[0] :: s.data.toList.drop 1) = (0, 0, 5) := by rw [hd]; unfold lenR; simp [a4]
              rw [hv] at h
              cases h
              clear hv a1 a2 a3 a4 hd hlt
              go_enter Try.func74, Try.ntmps74
              go_wp2_with fail
              refine wp_scope_some 1 ?_
              go_wp2_with fail
              go_step3
              refine ⟨_, rfl, ?_⟩
              go_wp2_with fail
              go_ret3
              exact ⟨rfl, H0.out⟩
            · have hp1 : 1 < s.size := by omega
              have hd := drop_cons s 1 hp1
              have hlt1 := s[1].toNat_lt
              have ho := or_low8 0 s[1].toNat hlt1 (by omega) (by omega)
              simp only [Int.zero_mul, Int.zero_add] at ho
              by_cases g : 128 ≤ s[1].toNat
              · have hv : lenR (s[0] :: s.data.toList.drop 1) = (s[1].toNat, 2, 0) := by rw [hd]; unfold lenR; simp [a4, g]
                rw [hv] at h
                cases h
                have c1 := len_mak s[1].toNat (by omega) _ rfl
                have hA := lenL_2 s[1].toNat g hlt1
                obtain ⟨A, hA2⟩ : ∃ A, A = bs (lenL s[1].toNat) := ⟨_, rfl⟩
                rw [← hA2] at c1 hA
                have hA3 : ((A.size : Int) == 2) = true := by rw [hA]; rfl
                clear hv a1 a2 a3 a4 hd hlt l1 hA2
                go_enter Try.func74, Try.ntmps74
                go_wp2_with fail
                refine wp_scope_some 1 ?_
                go_wp2_with fail
                go_loop [5, 32] (fun v i => (i = .int .i64 0 ∧ v = .int .i64 0) ∨ (i = .int .i64 1 ∧ v = .int .i64 (s[1].toNat : Int))) (fun _ i => 1 - (intOf i).toNat)
                case atStart => exact Or.inl ⟨rfl, rfl⟩
                case round =>
                  rcases hrel with ⟨rfl, rfl⟩ | ⟨rfl, rfl⟩
                  · go_wp2_with fail
                    go_round
                    case rel => exact Or.inr ⟨rfl, rfl⟩
                    case measure => decide
                  · go_wp2_with fail
                    refine (c1).calls H0.out ?_
                    intro w1 h1
                    have H1 := Lib.hid h1
                    clear h1
                    go_wp2_with fail
                    simp only [Exit.jumps]
                    go_ret3
                    exact ⟨rfl, H1.out⟩
              · have hv : lenR (s[0] :: s.data.toList.drop 1) = (0, 0, 5) := by rw [hd]; unfold lenR; simp [a4, g]
                rw [hv] at h
                cases h
                have c1 := len_mak s[1].toNat (by omega) _ rfl
                have hA := lenL_1 s[1].toNat (by omega)
                obtain ⟨A, hA2⟩ : ∃ A, A = bs (lenL s[1].toNat) := ⟨_, rfl⟩
                rw [← hA2] at c1 hA
                have hA3 : ((A.size : Int) == 2) = false := by rw [hA]; rfl
                clear hv a1 a2 a3 a4 hd hlt l1 hA2
                go_enter Try.func74, Try.ntmps74
                go_wp2_with fail
                refine wp_scope_some 1 ?_
                go_wp2_with fail
                go_loop [5, 32] (fun v i => (i = .int .i64 0 ∧ v = .int .i64 0) ∨ (i = .int .i64 1 ∧ v = .int .i64 (s[1].toNat : Int))) (fun _ i => 1 - (intOf i).toNat)
                case atStart => exact Or.inl ⟨rfl, rfl⟩
                case round =>
                  rcases hrel with ⟨rfl, rfl⟩ | ⟨rfl, rfl⟩
                  · go_wp2_with fail
                    go_round
                    case rel => exact Or.inr ⟨rfl, rfl⟩
                    case measure => decide
                  · go_wp2_with fail
                    refine (c1).calls H0.out ?_
                    intro w1 h1
                    have H1 := Lib.hid h1
                    clear h1
                    go_wp2_with fail
                    go_step3
                    go_wp2_with fail
                    (try simp only [Exit.jumps])
                    go_ret3
                    exact ⟨rfl, H1.out⟩
          · have hz : (s[0].toNat : Int) = 130 := by omega
            by_cases l1 : s.size ≤ 2
            · have hv : lenR (s[0] :: s.data.toList.drop 1) = (0, 0, 5) := by
                by_cases l2 : s.size ≤ 1
                · rw [show s.data.toList.drop 1 = [] from List.drop_eq_nil_of_le l2]; unfold lenR; simp [a1, a2, a3, a4]
                · rw [drop_cons s 1 (by omega), show s.data.toList.drop (1 + 1) = [] from List.drop_eq_nil_of_le l1]; unfold lenR; simp [a1, a2, a3, a4]
              rw [hv] at h
              cases h
              clear hv a1 a2 a3 a4 hlt
              go_enter Try.func74, Try.ntmps74
              go_wp2_with fail
              refine wp_scope_some 1 ?_
              go_wp2_with fail
              go_step3
              refine ⟨_, rfl, ?_⟩
              go_wp2_with fail
              go_ret3
              exact ⟨rfl, H0.out⟩
            · have hp1 : 1 < s.size := by omega
              have hp2 : 2 < s.size := by omega
              have hd : s.data.toList.drop 1 = s[1] :: s[2] :: s.data.toList.drop 3 := by rw [drop_cons s 1 hp1, drop_cons s (1 + 1) hp2]
              have hlt1 := s[1].toNat_lt
              have hlt2 := s[2].toNat_lt
              have ho := or_low8 0 s[1].toNat hlt1 (by omega) (by omega)
              simp only [Int.zero_mul, Int.zero_add] at ho
              have ho2 := or_low8 s[1].toNat s[2].toNat hlt2 (by omega) (by omega)
              obtain ⟨N, hN⟩ : ∃ N : Nat, N = 256 * s[1].toNat + s[2].toNat := ⟨_, rfl⟩
              have hNi : (s[1].toNat : Int) * 256 + (s[2].toNat : Int) = (N : Int) := by omega
              by_cases g : 256 ≤ N
              · have hv : lenR (s[0] :: s.data.toList.drop 1) = (N, 3, 0) := by rw [hd]; unfold lenR; simp [a1, a2, a3, a4, ← hN, g]
                rw [hv] at h
                simp only [Prod.mk.injEq] at h
                obtain ⟨e1, e2, e3⟩ := h
                subst e1 e2 e3
                have c1 := len_mak N (by omega) _ rfl
                have hA := lenL_3 N g
                obtain ⟨A, hA2⟩ : ∃ A, A = bs (lenL N) := ⟨_, rfl⟩
                rw [← hA2] at c1 hA
                have hA3 : ((A.size : Int) == 3) = true := by rw [hA]; rfl
                clear hv a1 a2 a3 a4 hd hlt l1 hA2 hN
                go_enter Try.func74, Try.ntmps74
                go_wp2_with fail
                refine wp_scope_some 1 ?_
                go_wp2_with fail
                go_loop [5, 32] (fun v i => (i = .int .i64 0 ∧ v = .int .i64 0) ∨ (i = .int .i64 1 ∧ v = .int .i64 (s[1].toNat : Int)) ∨ (i = .int .i64 2 ∧ v = .int .i64 (N : Int))) (fun _ i => 2 - (intOf i).toNat)
                case atStart => exact Or.inl ⟨rfl, rfl⟩
                case round =>
                  rcases hrel with ⟨rfl, rfl⟩ | ⟨rfl, rfl⟩ | ⟨rfl, rfl⟩
                  · go_wp2_with fail
                    go_round
                    case rel => exact Or.inr (Or.inl ⟨rfl, rfl⟩)
                    case measure => decide
                  · go_wp2_with fail
                    go_round
                    case rel => exact Or.inr (Or.inr ⟨rfl, by first | rfl | (rw [← hNi]; rfl) | rw [← hNi]⟩)
                    case measure => decide
                  · go_wp2_with fail
                    refine (c1).calls H0.out ?_
                    intro w1 h1
                    have H1 := Lib.hid h1
                    clear h1
                    go_wp2_with fail
                    simp only [Exit.jumps]
                    go_ret3
                    exact ⟨rfl, H1.out⟩
              · have hv : lenR (s[0] :: s.data.toList.drop 1) = (0, 0, 5) := by rw [hd]; unfold lenR; simp [a1, a2, a3, a4, ← hN, g]
                rw [hv] at h
                simp only [Prod.mk.injEq] at h
                obtain ⟨e1, e2, e3⟩ := h
                subst e1 e2 e3
                have c1 := len_mak N (by omega) _ rfl
                have hA : (bs (lenL N)).size ≤ 2 := by
                  by_cases g2 : N < 128
                  · rw [lenL_1 N g2]; decide
                  · rw [lenL_2 N (by omega) (by omega)]; decide
                obtain ⟨A, hA2⟩ : ∃ A, A = bs (lenL N) := ⟨_, rfl⟩
                rw [← hA2] at c1 hA
                have hA3 : ((A.size : Int) == 3) = false := by rw [beq_eq_false_iff_ne]; omega
                clear hv a1 a2 a3 a4 hd hlt l1 hA2 hN
                go_enter Try.func74, Try.ntmps74
                go_wp2_with fail
                refine wp_scope_some 1 ?_
                go_wp2_with fail
                go_loop [5, 32] (fun v i => (i = .int .i64 0 ∧ v = .int .i64 0) ∨ (i = .int .i64 1 ∧ v = .int .i64 (s[1].toNat : Int)) ∨ (i = .int .i64 2 ∧ v = .int .i64 (N : Int))) (fun _ i => 2 - (intOf i).toNat)
                case atStart => exact Or.inl ⟨rfl, rfl⟩
                case round =>
                  rcases hrel with ⟨rfl, rfl⟩ | ⟨rfl, rfl⟩ | ⟨rfl, rfl⟩
                  · go_wp2_with fail
                    go_round
                    case rel => exact Or.inr (Or.inl ⟨rfl, rfl⟩)
                    case measure => decide
                  · go_wp2_with fail
                    go_round
                    case rel => exact Or.inr (Or.inr ⟨rfl, by first | rfl | (rw [← hNi]; rfl) | rw [← hNi]⟩)
                    case measure => decide
                  · go_wp2_with fail
                    refine (c1).calls H0.out ?_
                    intro w1 h1
                    have H1 := Lib.hid h1
                    clear h1
                    go_wp2_with fail
                    go_step3
                    go_wp2_with fail
                    (try simp only [Exit.jumps])
                    go_ret3
                    exact ⟨rfl, H1.out⟩
end Head
end Go.Proofs.Ytihpndfjcgodiaa
