/- The walks of package head: a tag of several bytes that is read: that is too long. -/
import Derived.Test.YtlcicpdnakmdnaaHeadT
namespace Go.Proofs.Ytlcicpdnakmdnaa
open Go.RowKit
namespace Head

set_option maxRecDepth 100000 in
set_option maxHeartbeats 8000000 in
theorem rtag_f3 (s : ByteArray) (hm : s.size ≤ 1000000) (c : Nat) (b : Bool) (hp : 3 < s.size) (hc : (s[0].toNat : Int) / 64 = (c : Int)) (hc3 : (c : Int) ≤ 3) (ht : bits .and .u8 (s[0].toNat : Int) 31 = 31) (hb : (bits .and .u8 (s[0].toNat : Int) 32 != 0) = b) (e1 : Nat) (he1 : s[1].toNat = 128 + e1) (e2 : Nat) (he2 : s[2].toNat = 128 + e2) (e3 : Nat) (he3 : s[3].toNat = 128 + e3) (T2 : Nat) (hT2 : T2 = 128 * e1 + e2) (T3 : Nat) (hT3 : T3 = 128 * T2 + e3) : Mak 34 #[.string s] (tagV none) := by
  intro w
  have hne := some_bytes_f s (by omega)
  have hn0 : 0 < s.size := by omega
  have hi0 : (0 : Int) < (s.size : Int) := by omega
  have hi1 : (1 : Int) < (s.size : Int) := by omega
  have hi2 : (2 : Int) < (s.size : Int) := by omega
  have hi3 : (3 : Int) < (s.size : Int) := by omega
  have hs1 : ((1 : Int) == (s.size : Int)) = false := by rw [beq_eq_false_iff_ne]; omega
  have hs2 : ((2 : Int) == (s.size : Int)) = false := by rw [beq_eq_false_iff_ne]; omega
  have hs3 : ((3 : Int) == (s.size : Int)) = false := by rw [beq_eq_false_iff_ne]; omega
  have hl1 := s[1].toNat_lt
  have hand1 := and127_of (s[1].toNat : Int) (e1 : Int) (by omega) (by omega) (by omega)
  have hge1 : 128 ≤ s[1].toNat := by omega
  have hl2 := s[2].toNat_lt
  have hand2 := and127_of (s[2].toNat : Int) (e2 : Int) (by omega) (by omega) (by omega)
  have hge2 : 128 ≤ s[2].toNat := by omega
  have hl3 := s[3].toNat_lt
  have hand3 := and127_of (s[3].toNat : Int) (e3 : Int) (by omega) (by omega) (by omega)
  have hge3 : 128 ≤ s[3].toNat := by omega
  have hor1 := or_low7 0 e1 (by omega) (by omega) (by omega)
  simp only [Int.zero_mul, Int.zero_add] at hor1
  have hor2 := or_low7 (e1 : Int) e2 (by omega) (by omega) (by omega)
  rw [show (e1 : Int) * (128 : Int) + (e2 : Int) = (T2 : Int) from by omega] at hor2
  have hor3 := or_low7 (T2 : Int) e3 (by omega) (by omega) (by omega)
  rw [show (T2 : Int) * (128 : Int) + (e3 : Int) = (T3 : Int) from by omega] at hor3
  have heb1 : e1 ≤ 127 := by omega
  have heb2 : e2 ≤ 127 := by omega
  have heb3 : e3 ≤ 127 := by omega
  have hT2b : T2 ≤ 16383 := by omega
  have hT3b : T3 ≤ 2097151 := by omega
  clear he1
  clear he2
  clear he3
  clear hT2
  clear hT3
  by_cases h4 : s.size = 4
  · have hse : ((4 : Int) == (s.size : Int)) = true := by rw [h4]; rfl
    clear h4
    go_enter Try.func34, Try.ntmps34
    go_wp2_with fail
    refine wp_scope_some 5 ?_
    go_wp2_with fail
    go_region
    go_wp2_with fail
    go_step3
    go_wp2_with fail
    go_region
    go_wp2_with fail
    go_step3
    refine ⟨_, rfl, ?_⟩
    go_wp2_with fail
    go_region
    go_wp2_with fail
    go_step3
    refine ⟨_, rfl, ?_⟩
    go_wp2_with fail
    go_region
    go_wp2_with fail
    go_step3
    refine ⟨_, rfl, ?_⟩
    go_wp2_with fail
    go_step3
    refine ⟨_, rfl, ?_⟩
    go_wp2_with fail
    (try simp only [Exit.jumps])
    exact bodyPost_ret (v := tagV none) (by simp [results, Try.results34, go_sem]; try rfl) rfl ⟨rfl, by first | exact ((Since.refl w).alloc _).alloc _ | exact (((Since.refl w).alloc _).alloc _).drew | exact ((((Since.refl w).alloc _).alloc _).drew).drew | exact (((((Since.refl w).alloc _).alloc _).drew).drew).drew | exact ((((((Since.refl w).alloc _).alloc _).drew).drew).drew).drew | exact (((((((Since.refl w).alloc _).alloc _).drew).drew).drew).drew).drew | exact H9.out⟩
  · have hse : ((4 : Int) == (s.size : Int)) = false := by rw [beq_eq_false_iff_ne]; omega
    clear h4
    go_enter Try.func34, Try.ntmps34
    go_wp2_with fail
    refine wp_scope_some 5 ?_
    go_wp2_with fail
    go_region
    go_wp2_with fail
    go_step3
    go_wp2_with fail
    go_region
    go_wp2_with fail
    go_step3
    refine ⟨_, rfl, ?_⟩
    go_wp2_with fail
    go_region
    go_wp2_with fail
    go_step3
    refine ⟨_, rfl, ?_⟩
    go_wp2_with fail
    go_region
    go_wp2_with fail
    go_step3
    refine ⟨_, rfl, ?_⟩
    go_wp2_with fail
    go_step3
    refine ⟨_, rfl, ?_⟩
    go_wp2_with fail
    (try simp only [Exit.jumps])
    exact bodyPost_ret (v := tagV none) (by simp [results, Try.results34, go_sem]; try rfl) rfl ⟨rfl, by first | exact ((Since.refl w).alloc _).alloc _ | exact (((Since.refl w).alloc _).alloc _).drew | exact ((((Since.refl w).alloc _).alloc _).drew).drew | exact (((((Since.refl w).alloc _).alloc _).drew).drew).drew | exact ((((((Since.refl w).alloc _).alloc _).drew).drew).drew).drew | exact (((((((Since.refl w).alloc _).alloc _).drew).drew).drew).drew).drew | exact H9.out⟩
end Head
end Go.Proofs.Ytlcicpdnakmdnaa
