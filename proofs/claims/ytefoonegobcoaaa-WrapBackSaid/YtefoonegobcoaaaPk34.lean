/- Joined texts. -/
-- PACK: YtefoonegobcoaaaWrap
import Derived.Test.YtefoonegobcoaaaPk30
import Derived.Test.YtefoonegobcoaaaPk33
import Derived.Test.YtefoonegobcoaaaPk23

/- Package wrap: steps, counts, wrapping. -/
namespace Go.Proofs.Ytefoonegobcoaaa
open Go.RowKit
namespace Wrap
open Rnd Aes

def val : ByteArray := ⟨#[166, 166, 166, 166, 166, 166, 166, 166]⟩
theorem value_ret : Ret 20 #[] (.string val) := by
  intro w
  go_enter Try.func20, Try.ntmps20
  go_wp2_with fail
  go_ret
  exact ⟨rfl, rfl⟩
/-- whether a text can be wrapped -/
def fits (n : Int) : Prop := 16 ≤ n ∧ n ≤ 65536 ∧ n % 8 = 0
theorem steps_no (n : Int) (h : ¬ fits n) : Ret 18 #[.int .i64 n] (.int .i64 0) := by
  intro w
  unfold fits at h
  by_cases h1 : n < 16
  · have t1 : decide (n < 16) = true := decide_eq_true h1
    clear h
    go_enter Try.func18, Try.ntmps18
    go_wp2_with fail
    go_ret
    exact ⟨rfl, rfl⟩
  · have t1 : decide (n < 16) = false := decide_eq_false h1
    by_cases h2 : 65536 < n
    · have t2 : decide ((65536 : Int) < n) = true := decide_eq_true h2
      clear h
      go_enter Try.func18, Try.ntmps18
      go_wp2_with fail
      go_ret
      exact ⟨rfl, rfl⟩
    · have t2 : decide ((65536 : Int) < n) = false := decide_eq_false h2
      have t3 : (n % 8 == 0) = false := by rw [beq_eq_false_iff_ne]; omega
      have t4 : (n % 8 != 0) = true := by rw [bne_iff_ne]; omega
      clear h
      go_enter Try.func18, Try.ntmps18
      go_wp2_with fail
      go_ret
      exact ⟨rfl, rfl⟩
theorem steps_yes (n : Int) (h : fits n) (x : Int) (hx : x = 6 * (n / 8)) : Ret 18 #[.int .i64 n] (.int .i64 x) := by
  intro w
  obtain ⟨h1, h2, h3⟩ := h
  have t1 : decide (n < 16) = false := decide_eq_false (by omega)
  have t2 : decide ((65536 : Int) < n) = false := decide_eq_false (by omega)
  have t3 : (n % 8 == 0) = true := by rw [beq_iff_eq]; exact h3
  have t4 : (n % 8 != 0) = false := by rw [bne_eq_false_iff_eq]; exact h3
  subst hx
  clear h3
  go_enter Try.func18, Try.ntmps18
  go_wp2_with fail
  go_ret
  exact ⟨rfl, rfl⟩
theorem count_mak (A : ByteArray) (t : Nat) (hA : A.size ≤ 1000) (ht : t ≤ 1000000) (X : ByteArray) (hX : X = Sched.xorS A (cnt (t + 1))) : Mak 36 #[.string A, .int .i64 (t : Int)] (.string X) := by
  intro w
  have H0 := Lib.hid (Since.refl w)
  have e1 : IntKind.u64.wrap (t : Int) = (t : Int) := IntWalk.u64_in _ (by omega)
  have e2 : IntKind.u64.wrap ((t : Int) + 1) = (t : Int) + 1 := IntWalk.u64_in _ (by omega)
  obtain ⟨c, hc⟩ : ∃ c, c = cnt (t + 1) := ⟨_, rfl⟩
  have c1 : Mak 51 #[.int .u64 ((t : Int) + 1), .int .i64 8] (.string c) := fun w => by
    have h := Oct.put_mid ((t + 1 : Nat) : Int) 8 w (by omega) (by omega) (by decide) (by decide)
    have e : ((t + 1 : Nat) : Int) = (t : Int) + 1 := by omega
    rw [hc, cnt, e]
    rw [e] at h
    exact h
  have c2 := Sched.xor_m A c (by omega) (by rw [hc, cnt_size]; omega) X (by rw [hX, hc])
  clear hc hX
  go_enter Try.func36, Try.ntmps36
  go_wp2_with fail
  refine c1.calls H0.out ?_
  intro w1 h1
  have H1 := Lib.hid h1
  clear h1
  go_wp2_with fail
  refine c2.calls H1.out ?_
  intro w2 h2
  have H2 := Lib.hid h2
  clear h2
  go_wp2_with fail
  go_ret
  exact ⟨rfl, H2.out⟩
theorem raw_nokey (key iv s : ByteArray) (hm : key.size ≤ 1000000) (hk : ¬ keyOk key) : Ret 10 #[.string key, .string iv, .string s] (.tuple #[.string ⟨#[]⟩, .int .i64 2]) := by
  intro w
  have c1 := new_no key hm hk
  clear hk
  go_enter Try.func10, Try.ntmps10
  go_wp2_with fail
  refine (c1).calls ?_
  go_wp2_with fail
  go_ret2
  exact ⟨rfl, rfl⟩
theorem raw_noiv (key iv s : ByteArray) (hk : keyOk key) (hi : iv.size ≠ 8) : Mak 10 #[.string key, .string iv, .string s] (.tuple #[.string ⟨#[]⟩, .int .i64 1]) := by
  intro w
  have H0 := Lib.hid (Since.refl w)
  have c1 := new_key key hk
  have t1 : ((iv.size : Int) == 8) = false := by rw [beq_eq_false_iff_ne]; omega
  have t2 : ((iv.size : Int) != 8) = true := by rw [bne_iff_ne]; omega
  clear hk hi
  go_enter Try.func10, Try.ntmps10
  go_wp2_with fail
  refine c1 _ _ H0.out _ ?_
  intro c w1 hC _ h1
  have H1 := Lib.hid h1
  clear hC h1
  go_wp2_with fail
  go_ret2
  exact ⟨rfl, H1.out⟩
theorem raw_nosize (key iv s : ByteArray) (hk : keyOk key) (hi : iv.size = 8) (hs : ¬ fits (s.size : Int)) : Mak 10 #[.string key, .string iv, .string s] (.tuple #[.string ⟨#[]⟩, .int .i64 4]) := by
  intro w
  have H0 := Lib.hid (Since.refl w)
  have c1 := new_key key hk
  have c2 := steps_no _ hs
  have t1 : ((iv.size : Int) == 8) = true := by rw [beq_iff_eq]; omega
  have t2 : ((iv.size : Int) != 8) = false := by rw [bne_eq_false_iff_eq]; omega
  clear hk hi hs
  go_enter Try.func10, Try.ntmps10
  go_wp2_with fail
  refine c1 _ _ H0.out _ ?_
  intro c w1 hC _ h1
  have H1 := Lib.hid h1
  clear hC h1
  go_wp2_with fail
  refine (c2).calls ?_
  go_wp2_with fail
  go_ret2
  exact ⟨rfl, H1.out⟩
/-- a text wrapped: the value ahead, then the pieces -/
def rawK (key iv s : ByteArray) : ByteArray := bs ((wst (encK key) iv s.data.toList (6 * (s.size / 8))).1.data.toList ++ (wst (encK key) iv s.data.toList (6 * (s.size / 8))).2)
end Wrap
end Go.Proofs.Ytefoonegobcoaaa
