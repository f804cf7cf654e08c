/- Joined texts. -/
-- PACK: YtihpndfjcgodiaaOid
import Derived.Test.YtihpndfjcgodiaaTw1
import Derived.Test.YtihpndfjcgodiaaTw16
import Derived.Test.YtihpndfjcgodiaaTw10
import Derived.Laws.BitsAllLaws
import Derived.IntWalk

/- Package oid and its reference: numbers to the base 128. -/
namespace Go.Proofs.Ytihpndfjcgodiaa
open Go.RowKit
namespace Oid

set_option maxRecDepth 100000 in
theorem conv_any (x : Int) (S : ByteArray) (hS : strOfNums [x] = S) : ∀ (W : World) (g : Nat), W.cell? ⟨g, 0, none⟩ = some (.int .u8 x) → ∀ dst, Try.prog.underlying dst = some .string → (convert 84 dst (.slice (some ⟨g, 0, none⟩) 1 1)).run Try.prog W = .ok (.string S) W := by
  subst hS
  intro W g hc
  refine run_convert_bytes_arg (P := Try.prog) W 84 5 Try.underlying84 Try.underlying5 g 0 1 1 [x] rfl fun i hi => ?_
  obtain rfl : i = 0 := by omega
  exact hc
theorem i64_nat (a : Nat) (ha : a < 9223372036854775808) : (BitVec.ofInt 64 (a : Int)).toNat = a := by
  rw [BitVec.toNat_ofInt]; omega
theorem i64_and_nat (a b : Nat) (ha : a < 9223372036854775808) (hb : b < 9223372036854775808) : bits .and .i64 (a : Int) (b : Int) = ((a &&& b : Nat) : Int) := by
  have hx : a &&& b < 2 ^ 63 := Nat.and_lt_two_pow _ (by omega)
  show IntKind.i64.wrap ((BitVec.ofInt 64 (a : Int) &&& BitVec.ofInt 64 (b : Int)).toNat : Int) = _
  rw [BitVec.toNat_and, i64_nat a ha, i64_nat b hb, IntWalk.i64_in _ (by omega)]
theorem i64_or_nat (a b : Nat) (ha : a < 9223372036854775808) (hb : b < 9223372036854775808) : bits .or .i64 (a : Int) (b : Int) = ((a ||| b : Nat) : Int) := by
  have hx : a ||| b < 2 ^ 63 := Nat.or_lt_two_pow (by omega) (by omega)
  show IntKind.i64.wrap ((BitVec.ofInt 64 (a : Int) ||| BitVec.ofInt 64 (b : Int)).toNat : Int) = _
  rw [BitVec.toNat_or, i64_nat a ha, i64_nat b hb, IntWalk.i64_in _ (by omega)]
theorem i64_and127 (a : Nat) (ha : a < 9223372036854775808) : bits .and .i64 (a : Int) 127 = ((a % 128 : Nat) : Int) := by
  have h := i64_and_nat a 127 ha (by decide)
  rw [nat_mask7] at h
  exact h
theorem i64_or_low (a b : Nat) (ha : a < 72057594037927936) (hb : b < 128) : bits .or .i64 ((a * 128 : Nat) : Int) (b : Int) = ((a * 128 + b : Nat) : Int) := by
  rw [i64_or_nat _ _ (by omega) (by omega), nat_join 7 _ _ (by omega) (by omega)]
set_option maxRecDepth 100000 in
theorem or128 : ∀ n : Fin 256, bits .or .u8 ((n.1 : Nat) : Int) 128 = ((n.1 % 128 + 128 : Nat) : Int) := by decide

theorem or128_of (x y : Int) (h0 : 0 ≤ x) (hn : x < 256) (hy : y = x % 128 + 128) : bits .or .u8 x 128 = y := by
  have h := or128 ⟨x.toNat, by omega⟩
  have e : ((x.toNat : Nat) : Int) = x := by omega
  simp only [e] at h
  rw [h, hy]; omega
set_option maxRecDepth 100000 in
set_option maxHeartbeats 2000000 in
theorem rnumber_mak (n : Nat) (hn : n < 34359738368) (X : ByteArray) (hX : X = bs (num n)) : Mak 104 #[.int .i64 (n : Int)] (.string X) := by
  intro w
  have K0 := conv_any ((n : Int) % 128) (bs [UInt8.ofNat (n % 128)]) rfl
  have HX := Lib.hid hX
  clear hX
  go_enter Try.func104, Try.ntmps104
  go_wp2_with fail
  clear K0
  go_loopw [0, 3] (fun v s wr => ∃ (q : Nat) (L : List UInt8), v = .int .i64 (q : Int) ∧ s = .string (bs L) ∧ q < 34359738368 ∧ L.length ≤ 5 ∧ Hid (num n = hi q ++ L) ∧ Hid (Since w wr)) (fun v _ _ => (intOf v).toNat)
  case atStart => exact ⟨n / 128, [UInt8.ofNat (n % 128)], by simp, rfl, by omega, by simp, Lib.hid rfl, Lib.hid ((Since.refl w).alloc _)⟩
  case round =>
    obtain ⟨q, L, rfl, rfl, hq, hL, HC, HS⟩ := hrel
    by_cases h0 : q = 0
    · subst h0
      have hXL : X = bs L := by rw [HX.out, HC.out, hi_0]; rfl
      subst hXL
      go_wp2_with fail
      go_ret
      exact ⟨rfl, HS.out⟩
    · have hpos : 0 < q := by omega
      obtain ⟨d, hd⟩ : ∃ d : UInt8, d = UInt8.ofNat (q % 128 + 128) := ⟨_, rfl⟩
      have K1 := conv_any (128 + (q : Int) % 128) (bs [d]) (by rw [hd, show (128 : Int) + (q : Int) % 128 = ((q % 128 + 128 : Nat) : Int) from by omega]; rfl)
      have hcat : bs [d] ++ bs L = bs (d :: L) := by apply ba_ext; rw [app_list]; rfl
      have hsz : ¬ 9223372036854775807 < (bs [d]).size + (bs L).size := by rw [size_bs, size_bs]; simp; omega
      have n3 : num n = hi (q / 128) ++ (d :: L) := by rw [HC.out, hi_pos q hpos, hd, List.append_assoc]; rfl
      have n2 : (d :: L).length ≤ 5 := by
        have h := num_len n hn
        rw [n3, List.length_append] at h
        omega
      have HN3 := Lib.hid n3
      clear n3 hd
      generalize hLL : bs (d :: L) = LL at hcat
      go_wp2_with fail
      go_roundw
      case rel => exact ⟨q / 128, d :: L, by simp, by rw [hLL], by omega, n2, HN3, Lib.hid (HS.out.alloc _)⟩
      case measure => simp [intOf]; omega
end Oid
end Go.Proofs.Ytihpndfjcgodiaa
