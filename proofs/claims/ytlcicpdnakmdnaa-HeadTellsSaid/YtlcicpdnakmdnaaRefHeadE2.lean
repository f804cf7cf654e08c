/- The reference of package head: Encode, whole. -/
import Derived.Test.YtlcicpdnakmdnaaRefHeadE
namespace Go.Proofs.Ytlcicpdnakmdnaa
open Go.RowKit
namespace RefHead
open Head

theorem digL_len (t : Nat) : (digL t).length ≤ 3 := by unfold digL seg; split <;> split <;> simp
theorem app_bs (a b : List UInt8) : bs a ++ bs b = bs (a ++ b) := by apply ba_ext; rw [app_list]; rfl
theorem app_129 (a : List UInt8) : bs a ++ ⟨#[129]⟩ = bs (a ++ [129]) := app_bs a [129]
theorem app_130 (a : List UInt8) : bs a ++ ⟨#[130]⟩ = bs (a ++ [130]) := app_bs a [130]
theorem lens_of (c t n : Nat) (b : Bool) (hn : n ≤ 65535) (A : ByteArray) (hA : A = bs (tagL c t b)) (X : ByteArray) (hX : X = bs (encL c t b n)) :
    n < 128 ∧ A ++ bs [UInt8.ofNat n] = X ∨ 128 ≤ n ∧ n < 256 ∧ A ++ ⟨#[129]⟩ ++ bs (RefOct.low (n : Int) 1) = X ∨ 256 ≤ n ∧ A ++ ⟨#[130]⟩ ++ bs (RefOct.low (n : Int) 2) = X := by
  subst hA hX
  by_cases h1 : n < 128
  · refine Or.inl ⟨h1, ?_⟩
    rw [app_bs]; unfold encL lenL; rw [if_pos h1]
  · by_cases h2 : n < 256
    · refine Or.inr (Or.inl ⟨by omega, h2, ?_⟩)
      rw [app_129, app_bs, low1 n h2]; unfold encL lenL; rw [if_neg h1, if_pos h2, List.append_assoc]; rfl
    · refine Or.inr (Or.inr ⟨by omega, ?_⟩)
      rw [app_130, app_bs, low2 n hn]; unfold encL lenL; rw [if_neg h1, if_neg h2, List.append_assoc]; rfl
theorem first_i (c t : Nat) (b : Bool) (hc : c ≤ 3) (ht : t < 32) : strOfNums [64 * (c : Int) + (if b then 32 else 0) + (t : Int)] = bs [UInt8.ofNat (first c t b)] := by
  rw [bs_nums]
  refine congrArg (fun y => bs [UInt8.ofNat y]) ?_
  unfold first
  cases b <;> simp <;> omega
theorem renc_ok (c t n : Nat) (b : Bool) (hc : c ≤ 3) (ht : t ≤ 2097151) (hn : n ≤ 65535) (X : ByteArray) (hX : X = bs (encL c t b n)) : Mak 11 #[.agg #[.int .i64 (c : Int), .int .i64 (t : Int), .bool b, .int .i64 (n : Int)]] (.tuple #[.string X, .int .i64 0]) := by
  have c1 := may_yes (c : Int) (t : Int) (n : Int) b ⟨by omega, by omega, by omega, by omega, by omega, by omega⟩
  by_cases h : t < 31
  · have K1 := conv_any (64 * (c : Int) + (if b then 32 else 0) + (t : Int)) _ (first_i c t b hc (by omega))
    have hA : bs [UInt8.ofNat (first c t b)] = bs (tagL c t b) := by unfold tagL; rw [if_pos h]
    intro w
    cases b with
    | true => exact enc_st c t n _ rfl hc h hn c1 _ (by rw [size_bs]; simp) K1 X (lens_of c t n true hn _ hA X hX) w
    | false => exact enc_sf c t n _ rfl hc h hn c1 _ (by rw [size_bs]; simp) K1 X (lens_of c t n false hn _ hA X hX) w
  · have K1 := conv_any (64 * (c : Int) + (if b then 32 else 0) + 31) _ (first_i c 31 b hc (by omega))
    have hA : bs (UInt8.ofNat (first c 31 b) :: digL t) = bs (tagL c t b) := by rw [tagL_long c t b h]
    have hd := digL_len t
    have hs : (bs (UInt8.ofNat (first c 31 b) :: digL t)).size ≤ 8 := by rw [size_bs, List.length_cons]; omega
    intro w
    cases b with
    | true => exact enc_lt c t n _ rfl hc (by omega) ht hn c1 (bs (digL t)) (by rw [size_bs]; omega) (dig_mak t ht _ rfl) _ (by rw [size_bs]; simp) K1 _ hs (app_bs _ _) X (lens_of c t n true hn _ hA X hX) w
    | false => exact enc_lf c t n _ rfl hc (by omega) ht hn c1 (bs (digL t)) (by rw [size_bs]; omega) (dig_mak t ht _ rfl) _ (by rw [size_bs]; simp) K1 _ hs (app_bs _ _) X (lens_of c t n false hn _ hA X hX) w
theorem renc_no (c t n : Int) (b : Bool) (h : ¬ okH c t n) : Mak 11 #[.agg #[.int .i64 c, .int .i64 t, .bool b, .int .i64 n]] (.tuple #[.string ⟨#[]⟩, .int .i64 1]) := enc_no c t n b h

theorem rsize
  (c t n : Int) (b : Bool) (X : ByteArray) (e : Int) (hX : X.size ≤ 100) (c1 : Mak 11 #[.agg #[.int .i64 c, .int .i64 t, .bool b, .int .i64 n]] (.tuple #[.string X, .int .i64 e])) : Mak 15 #[.agg #[.int .i64 c, .int .i64 t, .bool b, .int .i64 n]] (.int .i64 (X.size : Int)) := by
    intro w
    go_enter Try.func15, Try.ntmps15
    go_wp2_with fail
    refine c1.calls0 ?_
    intro w1 h1
    have H1 : Hid (Since w w1) := Lib.hid (Since.step ((Since.refl w).alloc _) h1)
    clear h1
    go_wp2_with fail
    go_ret
    exact ⟨rfl, H1.out⟩
theorem psize
  (c t n : Int) (b : Bool) (X : ByteArray) (e : Int) (hX : X.size ≤ 100) (c1 : Mak 10 #[.agg #[.int .i64 c, .int .i64 t, .bool b, .int .i64 n]] (.tuple #[.string X, .int .i64 e])) : Mak 14 #[.agg #[.int .i64 c, .int .i64 t, .bool b, .int .i64 n]] (.int .i64 (X.size : Int)) := by
    intro w
    go_enter Try.func14, Try.ntmps14
    go_wp2_with fail
    refine c1.calls0 ?_
    intro w1 h1
    have H1 : Hid (Since w w1) := Lib.hid (Since.step ((Since.refl w).alloc _) h1)
    clear h1
    go_wp2_with fail
    go_ret
    exact ⟨rfl, H1.out⟩
end RefHead
end Go.Proofs.Ytlcicpdnakmdnaa
