/- Joined texts. -/
-- PACK: YtihpndfjcgodiaaRefHead
import Derived.Test.YtihpndfjcgodiaaTw30
import Derived.Test.YtihpndfjcgodiaaTw10
import Derived.Test.YtihpndfjcgodiaaTw15
import Derived.Deep.RegionWith

/- The reference of package head: what is written. -/
namespace Go.Proofs.Ytihpndfjcgodiaa
open Go.RowKit
namespace RefHead
open Head

set_option maxRecDepth 100000 in
theorem conv_any (x : Int) (S : ByteArray) (hS : strOfNums [x] = S) : ∀ (W : World) (g : Nat), W.cell? ⟨g, 0, none⟩ = some (.int .u8 x) → ∀ dst, Try.prog.underlying dst = some .string → (convert 84 dst (.slice (some ⟨g, 0, none⟩) 1 1)).run Try.prog W = .ok (.string S) W := by
  subst hS
  intro W g hc
  refine run_convert_bytes_arg (P := Try.prog) W 84 5 Try.underlying84 Try.underlying5 g 0 1 1 [x] rfl fun i hi => ?_
  obtain rfl : i = 0 := by omega
  exact hc

set_option maxRecDepth 100000 in
set_option maxHeartbeats 2000000 in
theorem dig_mak (n : Nat) (hn : n ≤ 2097151) (X : ByteArray) (hX : X = bs (digL n)) : Mak 76 #[.int .i64 (n : Int)] (.string X) := by
  intro w
  have K0 := conv_any ((n : Int) % 128) (bs [UInt8.ofNat (n % 128)]) rfl
  have HX := Lib.hid hX
  clear hX
  go_enter Try.func76, Try.ntmps76
  go_wp2_with fail
  clear K0
  go_loopw [0, 3] (fun v s wr => ∃ (q : Nat) (L : List UInt8), v = .int .i64 (q : Int) ∧ s = .string (bs L) ∧ q ≤ 2097151 ∧ L.length ≤ 3 ∧ Hid (q = n / 128 ∧ L = [UInt8.ofNat (n % 128)] ∨ 128 ≤ n ∧ q = n / 16384 ∧ L = [UInt8.ofNat (128 + n / 128 % 128), UInt8.ofNat (n % 128)] ∨ 16384 ≤ n ∧ q = 0 ∧ L = [UInt8.ofNat (128 + n / 16384 % 128), UInt8.ofNat (128 + n / 128 % 128), UInt8.ofNat (n % 128)]) ∧ Hid (Since w wr)) (fun v _ _ => (intOf v).toNat)
  case atStart => exact ⟨n / 128, [UInt8.ofNat (n % 128)], by simp, rfl, by omega, by simp, Lib.hid (Or.inl ⟨rfl, rfl⟩), Lib.hid ((Since.refl w).alloc _)⟩
  case round =>
    obtain ⟨q, L, rfl, rfl, hq, hL, HC, HS⟩ := hrel
    by_cases h0 : q = 0
    · subst h0
      have hXL : X = bs L := by
        rw [HX.out]
        congr 1
        rcases HC.out with ⟨h1, h2⟩ | ⟨h1, h2, h3⟩ | ⟨h1, h2, h3⟩
        · rw [h2, digL_1 n (by omega), Nat.mod_eq_of_lt (by omega)]
        · rw [h3, digL_2 n h1 (by omega), show n / 128 % 128 = n / 128 from by omega]
        · rw [h3, digL_3 n h1 hn, show n / 16384 % 128 = n / 16384 from by omega]
      subst hXL
      go_wp2_with fail
      go_ret
      exact ⟨rfl, HS.out⟩
    · have hpos : 0 < q := by omega
      obtain ⟨d, hd⟩ : ∃ d : UInt8, d = UInt8.ofNat (128 + q % 128) := ⟨_, rfl⟩
      have K1 := conv_any (128 + (q : Int) % 128) (bs [d]) (by rw [hd]; rfl)
      have hcat : bs [d] ++ bs L = bs (d :: L) := by apply ba_ext; rw [app_list]; rfl
      have hsz : ¬ 9223372036854775807 < (bs [d]).size + (bs L).size := by rw [size_bs, size_bs]; simp; omega
      have hnext : q / 128 ≤ 2097151 ∧ (d :: L).length ≤ 3 ∧ (128 ≤ n ∧ q / 128 = n / 16384 ∧ d :: L = [UInt8.ofNat (128 + n / 128 % 128), UInt8.ofNat (n % 128)] ∨ 16384 ≤ n ∧ q / 128 = 0 ∧ d :: L = [UInt8.ofNat (128 + n / 16384 % 128), UInt8.ofNat (128 + n / 128 % 128), UInt8.ofNat (n % 128)]) := by
        rcases HC.out with ⟨h1, h2⟩ | ⟨h1, h2, h3⟩ | ⟨h1, h2, h3⟩
        · refine ⟨by omega, by rw [h2]; simp, Or.inl ⟨by omega, by omega, by rw [h2, hd, h1]⟩⟩
        · refine ⟨by omega, by rw [h3]; simp, Or.inr ⟨by omega, by omega, by rw [h3, hd, h2]⟩⟩
        · exact absurd h2 h0
      obtain ⟨n1, n2, n3⟩ := hnext
      have HN3 := Lib.hid n3
      clear n3 hd
      generalize hLL : bs (d :: L) = LL at hcat
      go_wp2_with fail
      go_roundw
      case rel => exact ⟨q / 128, d :: L, by simp, by rw [hLL], n1, n2, Lib.hid (Or.inr HN3.out), Lib.hid (HS.out.alloc _)⟩
      case measure => simp [intOf]; omega

set_option maxRecDepth 100000 in
set_option maxHeartbeats 2000000 in
theorem may_yes (c t n : Int) (b : Bool) (h : okH c t n) : Mak 75 #[.agg #[.int .i64 c, .int .i64 t, .bool b, .int .i64 n]] (.bool true) := by
  intro w
  obtain ⟨h1, h2, h3, h4, h5, h6⟩ := h
  have h2' : c < 4 := by omega
  go_enter Try.func75, Try.ntmps75
  go_wp2_with fail
  go_ret
  exact ⟨rfl, (Since.refl w).alloc _⟩
theorem ret_bool {b c : Bool} (h : b = c) : Ending.returned (.bool b) = Ending.returned (.bool c) := by rw [h]
set_option maxRecDepth 100000 in
set_option maxHeartbeats 4000000 in
theorem may_no (c t n : Int) (b : Bool) (h : ¬ okH c t n) : Mak 75 #[.agg #[.int .i64 c, .int .i64 t, .bool b, .int .i64 n]] (.bool false) := by
  intro w
  unfold okH at h
  go_enter Try.func75, Try.ntmps75
  go_wp2_with fail
  all_goals
    go_ret
    refine ⟨?_, (Since.refl w).alloc _⟩
    first
      | rfl
      | (refine ret_bool ?_; simp; omega)
      | (exfalso; omega)

set_option maxRecDepth 100000 in
set_option maxHeartbeats 2000000 in
theorem enc_no (c t n : Int) (b : Bool) (h : ¬ okH c t n) : Mak 64 #[.agg #[.int .i64 c, .int .i64 t, .bool b, .int .i64 n]] (.tuple #[.string ⟨#[]⟩, .int .i64 1]) := by
  intro w
  have c1 := may_no c t n b h
  have H0 := Lib.hid ((Since.refl w).alloc (.cells #[.int .i64 c, .int .i64 t, .bool b, .int .i64 n] 76))
  go_enter Try.func64, Try.ntmps64
  go_wp2_with fail
  refine (c1).calls H0.out ?_
  intro w1 h1
  have H1 := Lib.hid h1
  clear h1
  go_wp2_with fail
  go_ret2
  exact ⟨rfl, H1.out⟩

theorem low1 (n : Nat) (h : n < 256) : RefOct.low (n : Int) 1 = [UInt8.ofNat n] := by
  show [UInt8.ofNat ((n : Int) / 2 ^ (8 * 0) % 256).toNat] = _
  congr 2
  simp
  omega
theorem low2 (n : Nat) (h : n ≤ 65535) : RefOct.low (n : Int) 2 = [UInt8.ofNat (n / 256), UInt8.ofNat (n % 256)] := by
  show [UInt8.ofNat ((n : Int) / 2 ^ (8 * 1) % 256).toNat, UInt8.ofNat ((n : Int) / 2 ^ (8 * 0) % 256).toNat] = _
  have e1 : ((n : Int) / 2 ^ (8 * 1) % 256).toNat = n / 256 := by simp; omega
  have e2 : ((n : Int) / 2 ^ (8 * 0) % 256).toNat = n % 256 := by simp; omega
  rw [e1, e2]
theorem tagL_len (c t : Nat) (b : Bool) : (tagL c t b).length ≤ 4 := by
  unfold tagL
  split
  · simp
  · unfold seg; split <;> split <;> simp

set_option maxRecDepth 100000 in
set_option maxHeartbeats 8000000 in
theorem enc_st (c t n : Nat) (F : Int) (hF : 64 * (c : Int) + (if true then 32 else 0) = F) (hc : c ≤ 3) (ht : t < 31) (hn : n ≤ 65535) (c1 : Mak 75 #[.agg #[.int .i64 (c : Int), .int .i64 (t : Int), .bool true, .int .i64 (n : Int)]] (.bool true))
    (A : ByteArray) (hAs : A.size ≤ 4) (K1 : ∀ (W : World) (g : Nat), W.cell? ⟨g, 0, none⟩ = some (.int .u8 (F + t)) → ∀ dst, Try.prog.underlying dst = some .string → (convert 84 dst (.slice (some ⟨g, 0, none⟩) 1 1)).run Try.prog W = .ok (.string A) W) (X : ByteArray)
    (hX : n < 128 ∧ A ++ bs [UInt8.ofNat n] = X ∨ 128 ≤ n ∧ n < 256 ∧ A ++ ⟨#[129]⟩ ++ bs (RefOct.low (n : Int) 1) = X ∨ 256 ≤ n ∧ A ++ ⟨#[130]⟩ ++ bs (RefOct.low (n : Int) 2) = X) (w : World) :
    Calls Try.prog 64 #[.agg #[.int .i64 (c : Int), .int .i64 (t : Int), .bool true, .int .i64 (n : Int)]] w fun e w' => e = .returned (.tuple #[.string X, .int .i64 0]) ∧ Since w w' := by
  simp only [if_true] at hF
  have hF2 : 0 ≤ F ∧ F ≤ 224 := by omega
  obtain ⟨f1, f2⟩ := hF2
  rcases hX with ⟨h1, hX⟩ | ⟨h1, h2, hX⟩ | ⟨h1, hX⟩
  · have K2 := conv_any (n : Int) (bs [UInt8.ofNat n]) rfl
    have hz : (bs [UInt8.ofNat n]).size = 1 := rfl
    generalize bs [UInt8.ofNat n] = N at *
    have hsz : ¬ 9223372036854775807 < A.size + N.size := by omega
    go_enter Try.func64, Try.ntmps64
    go_wp2_with fail
    refine c1.calls0 ?_
    intro w1 h1
    obtain ⟨q0, q1, q2, q3⟩ := box4 (show Since (w.alloc (.cells #[.int .i64 (c : Int), .int .i64 (t : Int), .bool true, .int .i64 (n : Int)] 76)) w1 from h1)
    have hlt : w.heap.size < w1.heap.size := by have h9 := Below.size h1; simp at h9; omega
    have H1 : Hid (Since w w1) := Lib.hid (Since.step ((Since.refl w).alloc _) h1)
    clear h1
    go_wp2_with fail
    go_ret2
    exact ⟨rfl, by first | exact H1.out.alloc _ | exact (H1.out.alloc _).alloc _⟩
  · have c3 : Mak 77 #[.int .u64 (n : Int), .int .i64 1] (.string (bs (RefOct.low (n : Int) 1))) := fun w => RefOct.put_mid (n : Int) 1 w (by omega) (by omega) (by decide) (by decide)
    have hz : (bs (RefOct.low (n : Int) 1)).size = 1 := RefOct.low_len _ _
    generalize bs (RefOct.low (n : Int) 1) = N at *
    have hz2 : (A ++ ⟨#[129]⟩).size = A.size + 1 := by simp; rfl
    have hsz : ¬ 9223372036854775807 < A.size + (⟨#[129]⟩ : ByteArray).size := by rw [show (⟨#[129]⟩ : ByteArray).size = 1 from rfl]; omega
    have hsz2 : ¬ 9223372036854775807 < (A ++ ⟨#[129]⟩).size + N.size := by omega
    go_enter Try.func64, Try.ntmps64
    go_wp2_with fail
    refine c1.calls0 ?_
    intro w1 h1
    obtain ⟨q0, q1, q2, q3⟩ := box4 (show Since (w.alloc (.cells #[.int .i64 (c : Int), .int .i64 (t : Int), .bool true, .int .i64 (n : Int)] 76)) w1 from h1)
    have hlt : w.heap.size < w1.heap.size := by have h9 := Below.size h1; simp at h9; omega
    have H1 : Hid (Since w w1) := Lib.hid (Since.step ((Since.refl w).alloc _) h1)
    clear h1
    go_wp2_with fail
    refine c3.calls0 ?_
    intro w6 h6
    have H6 : Hid (Since w w6) := Lib.hid (Since.step (by first | exact H1.out | exact H1.out.alloc _) h6)
    clear h6
    go_wp2_with fail
    go_ret2
    exact ⟨rfl, H6.out⟩
  · have c3 : Mak 77 #[.int .u64 (n : Int), .int .i64 2] (.string (bs (RefOct.low (n : Int) 2))) := fun w => RefOct.put_mid (n : Int) 2 w (by omega) (by omega) (by decide) (by decide)
    have hz : (bs (RefOct.low (n : Int) 2)).size = 2 := RefOct.low_len _ _
    generalize bs (RefOct.low (n : Int) 2) = N at *
    have hz2 : (A ++ ⟨#[130]⟩).size = A.size + 1 := by simp; rfl
    have hsz : ¬ 9223372036854775807 < A.size + (⟨#[130]⟩ : ByteArray).size := by rw [show (⟨#[130]⟩ : ByteArray).size = 1 from rfl]; omega
    have hsz2 : ¬ 9223372036854775807 < (A ++ ⟨#[130]⟩).size + N.size := by omega
    go_enter Try.func64, Try.ntmps64
    go_wp2_with fail
    refine c1.calls0 ?_
    intro w1 h1
    obtain ⟨q0, q1, q2, q3⟩ := box4 (show Since (w.alloc (.cells #[.int .i64 (c : Int), .int .i64 (t : Int), .bool true, .int .i64 (n : Int)] 76)) w1 from h1)
    have hlt : w.heap.size < w1.heap.size := by have h9 := Below.size h1; simp at h9; omega
    have H1 : Hid (Since w w1) := Lib.hid (Since.step ((Since.refl w).alloc _) h1)
    clear h1
    go_wp2_with fail
    refine c3.calls0 ?_
    intro w6 h6
    have H6 : Hid (Since w w6) := Lib.hid (Since.step (by first | exact H1.out | exact H1.out.alloc _) h6)
    clear h6
    go_wp2_with fail
    go_ret2
    exact ⟨rfl, H6.out⟩

set_option maxRecDepth 100000 in
set_option maxHeartbeats 8000000 in
theorem enc_sf (c t n : Nat) (F : Int) (hF : 64 * (c : Int) + (if false then 32 else 0) = F) (hc : c ≤ 3) (ht : t < 31) (hn : n ≤ 65535) (c1 : Mak 75 #[.agg #[.int .i64 (c : Int), .int .i64 (t : Int), .bool false, .int .i64 (n : Int)]] (.bool true))
    (A : ByteArray) (hAs : A.size ≤ 4) (K1 : ∀ (W : World) (g : Nat), W.cell? ⟨g, 0, none⟩ = some (.int .u8 (F + t)) → ∀ dst, Try.prog.underlying dst = some .string → (convert 84 dst (.slice (some ⟨g, 0, none⟩) 1 1)).run Try.prog W = .ok (.string A) W) (X : ByteArray)
    (hX : n < 128 ∧ A ++ bs [UInt8.ofNat n] = X ∨ 128 ≤ n ∧ n < 256 ∧ A ++ ⟨#[129]⟩ ++ bs (RefOct.low (n : Int) 1) = X ∨ 256 ≤ n ∧ A ++ ⟨#[130]⟩ ++ bs (RefOct.low (n : Int) 2) = X) (w : World) :
    Calls Try.prog 64 #[.agg #[.int .i64 (c : Int), .int .i64 (t : Int), .bool false, .int .i64 (n : Int)]] w fun e w' => e = .returned (.tuple #[.string X, .int .i64 0]) ∧ Since w w' := by
  simp only [Bool.false_eq_true, if_false, Int.add_zero] at hF
  have hF2 : 0 ≤ F ∧ F ≤ 224 := by omega
  obtain ⟨f1, f2⟩ := hF2
  rcases hX with ⟨h1, hX⟩ | ⟨h1, h2, hX⟩ | ⟨h1, hX⟩
  · have K2 := conv_any (n : Int) (bs [UInt8.ofNat n]) rfl
    have hz : (bs [UInt8.ofNat n]).size = 1 := rfl
    generalize bs [UInt8.ofNat n] = N at *
    have hsz : ¬ 9223372036854775807 < A.size + N.size := by omega
    go_enter Try.func64, Try.ntmps64
    go_wp2_with fail
    refine c1.calls0 ?_
    intro w1 h1
    obtain ⟨q0, q1, q2, q3⟩ := box4 (show Since (w.alloc (.cells #[.int .i64 (c : Int), .int .i64 (t : Int), .bool false, .int .i64 (n : Int)] 76)) w1 from h1)
    have hlt : w.heap.size < w1.heap.size := by have h9 := Below.size h1; simp at h9; omega
    have H1 : Hid (Since w w1) := Lib.hid (Since.step ((Since.refl w).alloc _) h1)
    clear h1
    go_wp2_with fail
    go_ret2
    exact ⟨rfl, by first | exact H1.out.alloc _ | exact (H1.out.alloc _).alloc _⟩
  · have c3 : Mak 77 #[.int .u64 (n : Int), .int .i64 1] (.string (bs (RefOct.low (n : Int) 1))) := fun w => RefOct.put_mid (n : Int) 1 w (by omega) (by omega) (by decide) (by decide)
    have hz : (bs (RefOct.low (n : Int) 1)).size = 1 := RefOct.low_len _ _
    generalize bs (RefOct.low (n : Int) 1) = N at *
    have hz2 : (A ++ ⟨#[129]⟩).size = A.size + 1 := by simp; rfl
    have hsz : ¬ 9223372036854775807 < A.size + (⟨#[129]⟩ : ByteArray).size := by rw [show (⟨#[129]⟩ : ByteArray).size = 1 from rfl]; omega
    have hsz2 : ¬ 9223372036854775807 < (A ++ ⟨#[129]⟩).size + N.size := by omega
    go_enter Try.func64, Try.ntmps64
    go_wp2_with fail
    refine c1.calls0 ?_
    intro w1 h1
    obtain ⟨q0, q1, q2, q3⟩ := box4 (show Since (w.alloc (.cells #[.int .i64 (c : Int), .int .i64 (t : Int), .bool false, .int .i64 (n : Int)] 76)) w1 from h1)
    have hlt : w.heap.size < w1.heap.size := by have h9 := Below.size h1; simp at h9; omega
    have H1 : Hid (Since w w1) := Lib.hid (Since.step ((Since.refl w).alloc _) h1)
    clear h1
    go_wp2_with fail
    refine c3.calls0 ?_
    intro w6 h6
    have H6 : Hid (Since w w6) := Lib.hid (Since.step (by first | exact H1.out | exact H1.out.alloc _) h6)
    clear h6
    go_wp2_with fail
    go_ret2
    exact ⟨rfl, H6.out⟩
  · have c3 : Mak 77 #[.int .u64 (n : Int), .int .i64 2] (.string (bs (RefOct.low (n : Int) 2))) := fun w => RefOct.put_mid (n : Int) 2 w (by omega) (by omega) (by decide) (by decide)
    have hz : (bs (RefOct.low (n : Int) 2)).size = 2 := RefOct.low_len _ _
    generalize bs (RefOct.low (n : Int) 2) = N at *
    have hz2 : (A ++ ⟨#[130]⟩).size = A.size + 1 := by simp; rfl
    have hsz : ¬ 9223372036854775807 < A.size + (⟨#[130]⟩ : ByteArray).size := by rw [show (⟨#[130]⟩ : ByteArray).size = 1 from rfl]; omega
    have hsz2 : ¬ 9223372036854775807 < (A ++ ⟨#[130]⟩).size + N.size := by omega
    go_enter Try.func64, Try.ntmps64
    go_wp2_with fail
    refine c1.calls0 ?_
    intro w1 h1
    obtain ⟨q0, q1, q2, q3⟩ := box4 (show Since (w.alloc (.cells #[.int .i64 (c : Int), .int .i64 (t : Int), .bool false, .int .i64 (n : Int)] 76)) w1 from h1)
    have hlt : w.heap.size < w1.heap.size := by have h9 := Below.size h1; simp at h9; omega
    have H1 : Hid (Since w w1) := Lib.hid (Since.step ((Since.refl w).alloc _) h1)
    clear h1
    go_wp2_with fail
    refine c3.calls0 ?_
    intro w6 h6
    have H6 : Hid (Since w w6) := Lib.hid (Since.step (by first | exact H1.out | exact H1.out.alloc _) h6)
    clear h6
    go_wp2_with fail
    go_ret2
    exact ⟨rfl, H6.out⟩

end RefHead
end Go.Proofs.Ytihpndfjcgodiaa
