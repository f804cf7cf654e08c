/- Joined texts. -/
-- PACK: YtjpjfdmcijleoaaRefHeadE YtjpjfdmcijleoaaRefHeadE2
import Derived.Test.YtjpjfdmcijleoaaTr22
import Derived.IntWalk

/- The reference of package head: Encode with a long tag, and whole. -/
namespace Go.Proofs.Ytjpjfdmcijleoaa
open Go.RowKit
namespace RefHead
open Head

theorem lt_alloc (w : World) (o : Obj) : w.heap.size < (w.alloc o).drew.heap.size := by simp
set_option maxRecDepth 100000 in
set_option maxHeartbeats 8000000 in
theorem enc_lt (c t n : Nat) (F : Int) (hF : 64 * (c : Int) + (if true then 32 else 0) = F) (hc : c ≤ 3) (ht : 31 ≤ t) (ht2 : t ≤ 2097151) (hn : n ≤ 65535) (c1 : Mak 47 #[.agg #[.int .i64 (c : Int), .int .i64 (t : Int), .bool true, .int .i64 (n : Int)]] (.bool true))
    (D : ByteArray) (hDs : D.size ≤ 4) (c2 : Mak 48 #[.int .i64 (t : Int)] (.string D))
    (A0 : ByteArray) (hA0s : A0.size ≤ 4) (K1 : ∀ (W : World) (g : Nat), W.cell? ⟨g, 0, none⟩ = some (.int .u8 (F + 31)) → ∀ dst, Try.prog.underlying dst = some .string → (convert 50 dst (.slice (some ⟨g, 0, none⟩) 1 1)).run Try.prog W = .ok (.string A0) W) (A : ByteArray) (hAs : A.size ≤ 8) (hA : A0 ++ D = A) (X : ByteArray)
    (hX : n < 128 ∧ A ++ bs [UInt8.ofNat n] = X ∨ 128 ≤ n ∧ n < 256 ∧ A ++ ⟨#[129]⟩ ++ bs (RefOct.low (n : Int) 1) = X ∨ 256 ≤ n ∧ A ++ ⟨#[130]⟩ ++ bs (RefOct.low (n : Int) 2) = X) (w : World) :
    Calls Try.prog 36 #[.agg #[.int .i64 (c : Int), .int .i64 (t : Int), .bool true, .int .i64 (n : Int)]] w fun e w' => e = .returned (.tuple #[.string X, .int .i64 0]) ∧ Since w w' := by
  simp only [if_true] at hF
  have hF2 : 0 ≤ F ∧ F ≤ 224 := by omega
  obtain ⟨f1, f2⟩ := hF2
  have hsA : ¬ 9223372036854775807 < A0.size + D.size := by omega
  have ht' : ¬ (t : Int) < 31 := by omega
  rcases hX with ⟨h1, hX⟩ | ⟨h1, h2, hX⟩ | ⟨h1, hX⟩
  · have K2 := conv_any (n : Int) (bs [UInt8.ofNat n]) rfl
    have hz : (bs [UInt8.ofNat n]).size = 1 := rfl
    generalize bs [UInt8.ofNat n] = N at *
    have hsz : ¬ 9223372036854775807 < A.size + N.size := by omega
    go_enter Try.func36, Try.ntmps36
    go_wp2_with fail
    refine c1.calls0 ?_
    intro w1 h1
    obtain ⟨q0, q1, q2, q3⟩ := box4 (show Since (w.alloc (.cells #[.int .i64 (c : Int), .int .i64 (t : Int), .bool true, .int .i64 (n : Int)] 64)) w1 from h1)
    have hlt : w.heap.size < w1.heap.size := by have h9 := Below.size h1; simp at h9; omega
    have H1 : Hid (Since w w1) := Lib.hid (Since.step ((Since.refl w).alloc _) h1)
    clear h1
    go_wp2_with fail
    have hw1 : IntKind.i64.wrap (F + 31) = F + 31 := IntWalk.i64_in _ (by omega)
    have hw2 : IntKind.u8.wrap (F + 31) = F + 31 := by show (F + 31) % 256 = F + 31; omega
    go_region_with (first | (go_at_call 48; refine c2.calls0 ?_; intro w5 h5; (try (have u0 := h5.cell (p := ⟨w1.heap.size, 0, none⟩) (lt_alloc _ _); simp [go_sem] at u0)); have q0 := (h5.cell (p := ⟨w.heap.size, 0, none⟩) (by simp; try omega)); have q1 := (h5.cell (p := ⟨w.heap.size, 1, none⟩) (by simp; try omega)); have q3 := (h5.cell (p := ⟨w.heap.size, 3, none⟩) (by simp; try omega)); simp [go_sem, hlt] at q0 q1 q3; have hlt5 : w.heap.size < w5.heap.size := (by have h9 := Below.size h5; simp at h9; omega); have H1 : Hid (Since w w5) := Lib.hid (Since.step (by first | exact H1.out | exact H1.out.drew | exact H1.out.alloc _ | exact (H1.out.drew).alloc _) h5); clear h5))
    all_goals
      go_wp2_with fail
      go_ret2
      exact ⟨rfl, by first | exact H1.out.alloc _ | exact (H1.out.alloc _).alloc _ | exact ((H1.out.alloc _).drew).alloc _ | exact (H1.out.drew).alloc _⟩
  · have c3 : Mak 49 #[.int .u64 (n : Int), .int .i64 1] (.string (bs (RefOct.low (n : Int) 1))) := fun w => RefOct.put_mid (n : Int) 1 w (by omega) (by omega) (by decide) (by decide)
    have hz : (bs (RefOct.low (n : Int) 1)).size = 1 := RefOct.low_len _ _
    generalize bs (RefOct.low (n : Int) 1) = N at *
    have hz2 : (A ++ ⟨#[129]⟩).size = A.size + 1 := by simp; rfl
    have hsz : ¬ 9223372036854775807 < A.size + (⟨#[129]⟩ : ByteArray).size := by rw [show (⟨#[129]⟩ : ByteArray).size = 1 from rfl]; omega
    have hsz2 : ¬ 9223372036854775807 < (A ++ ⟨#[129]⟩).size + N.size := by omega
    go_enter Try.func36, Try.ntmps36
    go_wp2_with fail
    refine c1.calls0 ?_
    intro w1 h1
    obtain ⟨q0, q1, q2, q3⟩ := box4 (show Since (w.alloc (.cells #[.int .i64 (c : Int), .int .i64 (t : Int), .bool true, .int .i64 (n : Int)] 64)) w1 from h1)
    have hlt : w.heap.size < w1.heap.size := by have h9 := Below.size h1; simp at h9; omega
    have H1 : Hid (Since w w1) := Lib.hid (Since.step ((Since.refl w).alloc _) h1)
    clear h1
    go_wp2_with fail
    have hw1 : IntKind.i64.wrap (F + 31) = F + 31 := IntWalk.i64_in _ (by omega)
    have hw2 : IntKind.u8.wrap (F + 31) = F + 31 := by show (F + 31) % 256 = F + 31; omega
    go_region_with (first | (go_at_call 48; refine c2.calls0 ?_; intro w5 h5; (try (have u0 := h5.cell (p := ⟨w1.heap.size, 0, none⟩) (lt_alloc _ _); simp [go_sem] at u0)); have q0 := (h5.cell (p := ⟨w.heap.size, 0, none⟩) (by simp; try omega)); have q1 := (h5.cell (p := ⟨w.heap.size, 1, none⟩) (by simp; try omega)); have q3 := (h5.cell (p := ⟨w.heap.size, 3, none⟩) (by simp; try omega)); simp [go_sem, hlt] at q0 q1 q3; have hlt5 : w.heap.size < w5.heap.size := (by have h9 := Below.size h5; simp at h9; omega); have H1 : Hid (Since w w5) := Lib.hid (Since.step (by first | exact H1.out | exact H1.out.drew | exact H1.out.alloc _ | exact (H1.out.drew).alloc _) h5); clear h5))
    all_goals
      go_wp2_with fail
      refine c3.calls0 ?_
      intro w6 h6
      have H6 : Hid (Since w w6) := Lib.hid (Since.step (by first | exact H1.out | exact H1.out.drew | exact H1.out.alloc _ | exact (H1.out.alloc _).drew | exact (H1.out.drew).alloc _) h6)
      clear h6
      go_wp2_with fail
      go_ret2
      exact ⟨rfl, H6.out⟩
  · have c3 : Mak 49 #[.int .u64 (n : Int), .int .i64 2] (.string (bs (RefOct.low (n : Int) 2))) := fun w => RefOct.put_mid (n : Int) 2 w (by omega) (by omega) (by decide) (by decide)
    have hz : (bs (RefOct.low (n : Int) 2)).size = 2 := RefOct.low_len _ _
    generalize bs (RefOct.low (n : Int) 2) = N at *
    have hz2 : (A ++ ⟨#[130]⟩).size = A.size + 1 := by simp; rfl
    have hsz : ¬ 9223372036854775807 < A.size + (⟨#[130]⟩ : ByteArray).size := by rw [show (⟨#[130]⟩ : ByteArray).size = 1 from rfl]; omega
    have hsz2 : ¬ 9223372036854775807 < (A ++ ⟨#[130]⟩).size + N.size := by omega
    go_enter Try.func36, Try.ntmps36
    go_wp2_with fail
    refine c1.calls0 ?_
    intro w1 h1
    obtain ⟨q0, q1, q2, q3⟩ := box4 (show Since (w.alloc (.cells #[.int .i64 (c : Int), .int .i64 (t : Int), .bool true, .int .i64 (n : Int)] 64)) w1 from h1)
    have hlt : w.heap.size < w1.heap.size := by have h9 := Below.size h1; simp at h9; omega
    have H1 : Hid (Since w w1) := Lib.hid (Since.step ((Since.refl w).alloc _) h1)
    clear h1
    go_wp2_with fail
    have hw1 : IntKind.i64.wrap (F + 31) = F + 31 := IntWalk.i64_in _ (by omega)
    have hw2 : IntKind.u8.wrap (F + 31) = F + 31 := by show (F + 31) % 256 = F + 31; omega
    go_region_with (first | (go_at_call 48; refine c2.calls0 ?_; intro w5 h5; (try (have u0 := h5.cell (p := ⟨w1.heap.size, 0, none⟩) (lt_alloc _ _); simp [go_sem] at u0)); have q0 := (h5.cell (p := ⟨w.heap.size, 0, none⟩) (by simp; try omega)); have q1 := (h5.cell (p := ⟨w.heap.size, 1, none⟩) (by simp; try omega)); have q3 := (h5.cell (p := ⟨w.heap.size, 3, none⟩) (by simp; try omega)); simp [go_sem, hlt] at q0 q1 q3; have hlt5 : w.heap.size < w5.heap.size := (by have h9 := Below.size h5; simp at h9; omega); have H1 : Hid (Since w w5) := Lib.hid (Since.step (by first | exact H1.out | exact H1.out.drew | exact H1.out.alloc _ | exact (H1.out.drew).alloc _) h5); clear h5))
    all_goals
      go_wp2_with fail
      refine c3.calls0 ?_
      intro w6 h6
      have H6 : Hid (Since w w6) := Lib.hid (Since.step (by first | exact H1.out | exact H1.out.drew | exact H1.out.alloc _ | exact (H1.out.alloc _).drew | exact (H1.out.drew).alloc _) h6)
      clear h6
      go_wp2_with fail
      go_ret2
      exact ⟨rfl, H6.out⟩

set_option maxRecDepth 100000 in
set_option maxHeartbeats 8000000 in
theorem enc_lf (c t n : Nat) (F : Int) (hF : 64 * (c : Int) + (if false then 32 else 0) = F) (hc : c ≤ 3) (ht : 31 ≤ t) (ht2 : t ≤ 2097151) (hn : n ≤ 65535) (c1 : Mak 47 #[.agg #[.int .i64 (c : Int), .int .i64 (t : Int), .bool false, .int .i64 (n : Int)]] (.bool true))
    (D : ByteArray) (hDs : D.size ≤ 4) (c2 : Mak 48 #[.int .i64 (t : Int)] (.string D))
    (A0 : ByteArray) (hA0s : A0.size ≤ 4) (K1 : ∀ (W : World) (g : Nat), W.cell? ⟨g, 0, none⟩ = some (.int .u8 (F + 31)) → ∀ dst, Try.prog.underlying dst = some .string → (convert 50 dst (.slice (some ⟨g, 0, none⟩) 1 1)).run Try.prog W = .ok (.string A0) W) (A : ByteArray) (hAs : A.size ≤ 8) (hA : A0 ++ D = A) (X : ByteArray)
    (hX : n < 128 ∧ A ++ bs [UInt8.ofNat n] = X ∨ 128 ≤ n ∧ n < 256 ∧ A ++ ⟨#[129]⟩ ++ bs (RefOct.low (n : Int) 1) = X ∨ 256 ≤ n ∧ A ++ ⟨#[130]⟩ ++ bs (RefOct.low (n : Int) 2) = X) (w : World) :
    Calls Try.prog 36 #[.agg #[.int .i64 (c : Int), .int .i64 (t : Int), .bool false, .int .i64 (n : Int)]] w fun e w' => e = .returned (.tuple #[.string X, .int .i64 0]) ∧ Since w w' := by
  simp only [Bool.false_eq_true, if_false, Int.add_zero] at hF
  have hF2 : 0 ≤ F ∧ F ≤ 224 := by omega
  obtain ⟨f1, f2⟩ := hF2
  have hsA : ¬ 9223372036854775807 < A0.size + D.size := by omega
  have ht' : ¬ (t : Int) < 31 := by omega
  rcases hX with ⟨h1, hX⟩ | ⟨h1, h2, hX⟩ | ⟨h1, hX⟩
  · have K2 := conv_any (n : Int) (bs [UInt8.ofNat n]) rfl
    have hz : (bs [UInt8.ofNat n]).size = 1 := rfl
    generalize bs [UInt8.ofNat n] = N at *
    have hsz : ¬ 9223372036854775807 < A.size + N.size := by omega
    go_enter Try.func36, Try.ntmps36
    go_wp2_with fail
    refine c1.calls0 ?_
    intro w1 h1
    obtain ⟨q0, q1, q2, q3⟩ := box4 (show Since (w.alloc (.cells #[.int .i64 (c : Int), .int .i64 (t : Int), .bool false, .int .i64 (n : Int)] 64)) w1 from h1)
    have hlt : w.heap.size < w1.heap.size := by have h9 := Below.size h1; simp at h9; omega
    have H1 : Hid (Since w w1) := Lib.hid (Since.step ((Since.refl w).alloc _) h1)
    clear h1
    go_wp2_with fail
    have hw1 : IntKind.i64.wrap (F + 31) = F + 31 := IntWalk.i64_in _ (by omega)
    have hw2 : IntKind.u8.wrap (F + 31) = F + 31 := by show (F + 31) % 256 = F + 31; omega
    go_region_with (first | (go_at_call 48; refine c2.calls0 ?_; intro w5 h5; (try (have u0 := h5.cell (p := ⟨w1.heap.size, 0, none⟩) (lt_alloc _ _); simp [go_sem] at u0)); have q0 := (h5.cell (p := ⟨w.heap.size, 0, none⟩) (by simp; try omega)); have q1 := (h5.cell (p := ⟨w.heap.size, 1, none⟩) (by simp; try omega)); have q3 := (h5.cell (p := ⟨w.heap.size, 3, none⟩) (by simp; try omega)); simp [go_sem, hlt] at q0 q1 q3; have hlt5 : w.heap.size < w5.heap.size := (by have h9 := Below.size h5; simp at h9; omega); have H1 : Hid (Since w w5) := Lib.hid (Since.step (by first | exact H1.out | exact H1.out.drew | exact H1.out.alloc _ | exact (H1.out.drew).alloc _) h5); clear h5))
    all_goals
      go_wp2_with fail
      go_ret2
      exact ⟨rfl, by first | exact H1.out.alloc _ | exact (H1.out.alloc _).alloc _ | exact ((H1.out.alloc _).drew).alloc _ | exact (H1.out.drew).alloc _⟩
  · have c3 : Mak 49 #[.int .u64 (n : Int), .int .i64 1] (.string (bs (RefOct.low (n : Int) 1))) := fun w => RefOct.put_mid (n : Int) 1 w (by omega) (by omega) (by decide) (by decide)
    have hz : (bs (RefOct.low (n : Int) 1)).size = 1 := RefOct.low_len _ _
    generalize bs (RefOct.low (n : Int) 1) = N at *
    have hz2 : (A ++ ⟨#[129]⟩).size = A.size + 1 := by simp; rfl
    have hsz : ¬ 9223372036854775807 < A.size + (⟨#[129]⟩ : ByteArray).size := by rw [show (⟨#[129]⟩ : ByteArray).size = 1 from rfl]; omega
    have hsz2 : ¬ 9223372036854775807 < (A ++ ⟨#[129]⟩).size + N.size := by omega
    go_enter Try.func36, Try.ntmps36
    go_wp2_with fail
    refine c1.calls0 ?_
    intro w1 h1
    obtain ⟨q0, q1, q2, q3⟩ := box4 (show Since (w.alloc (.cells #[.int .i64 (c : Int), .int .i64 (t : Int), .bool false, .int .i64 (n : Int)] 64)) w1 from h1)
    have hlt : w.heap.size < w1.heap.size := by have h9 := Below.size h1; simp at h9; omega
    have H1 : Hid (Since w w1) := Lib.hid (Since.step ((Since.refl w).alloc _) h1)
    clear h1
    go_wp2_with fail
    have hw1 : IntKind.i64.wrap (F + 31) = F + 31 := IntWalk.i64_in _ (by omega)
    have hw2 : IntKind.u8.wrap (F + 31) = F + 31 := by show (F + 31) % 256 = F + 31; omega
    go_region_with (first | (go_at_call 48; refine c2.calls0 ?_; intro w5 h5; (try (have u0 := h5.cell (p := ⟨w1.heap.size, 0, none⟩) (lt_alloc _ _); simp [go_sem] at u0)); have q0 := (h5.cell (p := ⟨w.heap.size, 0, none⟩) (by simp; try omega)); have q1 := (h5.cell (p := ⟨w.heap.size, 1, none⟩) (by simp; try omega)); have q3 := (h5.cell (p := ⟨w.heap.size, 3, none⟩) (by simp; try omega)); simp [go_sem, hlt] at q0 q1 q3; have hlt5 : w.heap.size < w5.heap.size := (by have h9 := Below.size h5; simp at h9; omega); have H1 : Hid (Since w w5) := Lib.hid (Since.step (by first | exact H1.out | exact H1.out.drew | exact H1.out.alloc _ | exact (H1.out.drew).alloc _) h5); clear h5))
    all_goals
      go_wp2_with fail
      refine c3.calls0 ?_
      intro w6 h6
      have H6 : Hid (Since w w6) := Lib.hid (Since.step (by first | exact H1.out | exact H1.out.drew | exact H1.out.alloc _ | exact (H1.out.alloc _).drew | exact (H1.out.drew).alloc _) h6)
      clear h6
      go_wp2_with fail
      go_ret2
      exact ⟨rfl, H6.out⟩
  · have c3 : Mak 49 #[.int .u64 (n : Int), .int .i64 2] (.string (bs (RefOct.low (n : Int) 2))) := fun w => RefOct.put_mid (n : Int) 2 w (by omega) (by omega) (by decide) (by decide)
    have hz : (bs (RefOct.low (n : Int) 2)).size = 2 := RefOct.low_len _ _
    generalize bs (RefOct.low (n : Int) 2) = N at *
    have hz2 : (A ++ ⟨#[130]⟩).size = A.size + 1 := by simp; rfl
    have hsz : ¬ 9223372036854775807 < A.size + (⟨#[130]⟩ : ByteArray).size := by rw [show (⟨#[130]⟩ : ByteArray).size = 1 from rfl]; omega
    have hsz2 : ¬ 9223372036854775807 < (A ++ ⟨#[130]⟩).size + N.size := by omega
    go_enter Try.func36, Try.ntmps36
    go_wp2_with fail
    refine c1.calls0 ?_
    intro w1 h1
    obtain ⟨q0, q1, q2, q3⟩ := box4 (show Since (w.alloc (.cells #[.int .i64 (c : Int), .int .i64 (t : Int), .bool false, .int .i64 (n : Int)] 64)) w1 from h1)
    have hlt : w.heap.size < w1.heap.size := by have h9 := Below.size h1; simp at h9; omega
    have H1 : Hid (Since w w1) := Lib.hid (Since.step ((Since.refl w).alloc _) h1)
    clear h1
    go_wp2_with fail
    have hw1 : IntKind.i64.wrap (F + 31) = F + 31 := IntWalk.i64_in _ (by omega)
    have hw2 : IntKind.u8.wrap (F + 31) = F + 31 := by show (F + 31) % 256 = F + 31; omega
    go_region_with (first | (go_at_call 48; refine c2.calls0 ?_; intro w5 h5; (try (have u0 := h5.cell (p := ⟨w1.heap.size, 0, none⟩) (lt_alloc _ _); simp [go_sem] at u0)); have q0 := (h5.cell (p := ⟨w.heap.size, 0, none⟩) (by simp; try omega)); have q1 := (h5.cell (p := ⟨w.heap.size, 1, none⟩) (by simp; try omega)); have q3 := (h5.cell (p := ⟨w.heap.size, 3, none⟩) (by simp; try omega)); simp [go_sem, hlt] at q0 q1 q3; have hlt5 : w.heap.size < w5.heap.size := (by have h9 := Below.size h5; simp at h9; omega); have H1 : Hid (Since w w5) := Lib.hid (Since.step (by first | exact H1.out | exact H1.out.drew | exact H1.out.alloc _ | exact (H1.out.drew).alloc _) h5); clear h5))
    all_goals
      go_wp2_with fail
      refine c3.calls0 ?_
      intro w6 h6
      have H6 : Hid (Since w w6) := Lib.hid (Since.step (by first | exact H1.out | exact H1.out.drew | exact H1.out.alloc _ | exact (H1.out.alloc _).drew | exact (H1.out.drew).alloc _) h6)
      clear h6
      go_wp2_with fail
      go_ret2
      exact ⟨rfl, H6.out⟩

end RefHead
end Go.Proofs.Ytjpjfdmcijleoaa

/- The reference of package head: Encode, whole. -/
namespace Go.Proofs.Ytjpjfdmcijleoaa
open Go.RowKit
namespace RefHead
open Head

theorem digL_len (t : Nat) : (digL t).length ≤ 3 := by unfold digL seg; split <;> split <;> simp
theorem app_bs (a b : List UInt8) : bs a ++ bs b = bs (a ++ b) := by apply ba_ext; rw [app_list]; rfl
theorem app_129 (a : List UInt8) : bs a ++ ⟨#[129]⟩ = bs (a ++ [129]) := app_bs a [129]
theorem app_130 (a : List UInt8) : bs a ++ ⟨#[130]⟩ = bs (a ++ [130]) := app_bs a [130]
theorem lens_of (c t n : Nat) (b : Bool) (hn : n ≤ 65535) (A : ByteArray) (hA : A = bs (tagL c t b)) (X : ByteArray) (hX : X = bs (encL c t b n)) :
    n < 128 ∧ A ++ bs [UInt8.ofNat n] = X ∨ 128 ≤ n ∧ n < 256 ∧ A ++ ⟨#[129]⟩ ++ bs (RefOct.low (n : Int) 1) = X ∨ 256 ≤ n ∧ A ++ ⟨#[130]⟩ ++ bs (RefOct.low (n : Int) 2) = X := by
  subst hA hX
  by_cases h1 : n < 128
  · refine Or.inl ⟨h1, ?_⟩
    rw [app_bs]; unfold encL lenL; rw [if_pos h1]
  · by_cases h2 : n < 256
    · refine Or.inr (Or.inl ⟨by omega, h2, ?_⟩)
      rw [app_129, app_bs, low1 n h2]; unfold encL lenL; rw [if_neg h1, if_pos h2, List.append_assoc]; rfl
    · refine Or.inr (Or.inr ⟨by omega, ?_⟩)
      rw [app_130, app_bs, low2 n hn]; unfold encL lenL; rw [if_neg h1, if_neg h2, List.append_assoc]; rfl
theorem first_i (c t : Nat) (b : Bool) (hc : c ≤ 3) (ht : t < 32) : strOfNums [64 * (c : Int) + (if b then 32 else 0) + (t : Int)] = bs [UInt8.ofNat (first c t b)] := by
  rw [bs_nums]
  refine congrArg (fun y => bs [UInt8.ofNat y]) ?_
  unfold first
  cases b <;> simp <;> omega
theorem renc_ok (c t n : Nat) (b : Bool) (hc : c ≤ 3) (ht : t ≤ 2097151) (hn : n ≤ 65535) (X : ByteArray) (hX : X = bs (encL c t b n)) : Mak 36 #[.agg #[.int .i64 (c : Int), .int .i64 (t : Int), .bool b, .int .i64 (n : Int)]] (.tuple #[.string X, .int .i64 0]) := by
  have c1 := may_yes (c : Int) (t : Int) (n : Int) b ⟨by omega, by omega, by omega, by omega, by omega, by omega⟩
  by_cases h : t < 31
  · have K1 := conv_any (64 * (c : Int) + (if b then 32 else 0) + (t : Int)) _ (first_i c t b hc (by omega))
    have hA : bs [UInt8.ofNat (first c t b)] = bs (tagL c t b) := by unfold tagL; rw [if_pos h]
    intro w
    cases b with
    | true => exact enc_st c t n _ rfl hc h hn c1 _ (by rw [size_bs]; simp) K1 X (lens_of c t n true hn _ hA X hX) w
    | false => exact enc_sf c t n _ rfl hc h hn c1 _ (by rw [size_bs]; simp) K1 X (lens_of c t n false hn _ hA X hX) w
  · have K1 := conv_any (64 * (c : Int) + (if b then 32 else 0) + 31) _ (first_i c 31 b hc (by omega))
    have hA : bs (UInt8.ofNat (first c 31 b) :: digL t) = bs (tagL c t b) := by rw [tagL_long c t b h]
    have hd := digL_len t
    have hs : (bs (UInt8.ofNat (first c 31 b) :: digL t)).size ≤ 8 := by rw [size_bs, List.length_cons]; omega
    intro w
    cases b with
    | true => exact enc_lt c t n _ rfl hc (by omega) ht hn c1 (bs (digL t)) (by rw [size_bs]; omega) (dig_mak t ht _ rfl) _ (by rw [size_bs]; simp) K1 _ hs (app_bs _ _) X (lens_of c t n true hn _ hA X hX) w
    | false => exact enc_lf c t n _ rfl hc (by omega) ht hn c1 (bs (digL t)) (by rw [size_bs]; omega) (dig_mak t ht _ rfl) _ (by rw [size_bs]; simp) K1 _ hs (app_bs _ _) X (lens_of c t n false hn _ hA X hX) w
theorem renc_no (c t n : Int) (b : Bool) (h : ¬ okH c t n) : Mak 36 #[.agg #[.int .i64 c, .int .i64 t, .bool b, .int .i64 n]] (.tuple #[.string ⟨#[]⟩, .int .i64 1]) := enc_no c t n b h

set_option maxRecDepth 100000 in
theorem psize
  (c t n : Int) (b : Bool) (X : ByteArray) (e : Int) (_hX : X.size ≤ 100) (c1 : Mak 24 #[.agg #[.int .i64 c, .int .i64 t, .bool b, .int .i64 n]] (.tuple #[.string X, .int .i64 e])) : Mak 23 #[.agg #[.int .i64 c, .int .i64 t, .bool b, .int .i64 n]] (.int .i64 (X.size : Int)) := by
    intro w
    go_enter Try.func23, Try.ntmps23
    go_wp2_with fail
    refine c1.calls0 ?_
    intro w1 h1
    have H1 : Hid (Since w w1) := Lib.hid (Since.step ((Since.refl w).alloc _) h1)
    clear h1
    go_wp2_with fail
    go_ret
    exact ⟨rfl, H1.out⟩
end RefHead
end Go.Proofs.Ytjpjfdmcijleoaa
