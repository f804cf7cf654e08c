/- Joined texts. -/
-- PACK: YtgbfdgopinnlbaaDerAwake YtgbfdgopinnlbaaSeal YtgbfdgopinnlbaaSealAwake
import Derived.Test.YtgbfdgopinnlbaaPk34
import Derived.Test.YtgbfdgopinnlbaaPk33

/- What the law calls awake, for layer 35. -/
namespace Go.Proofs.Ytgbfdgopinnlbaa
open Go.RowKit
namespace Der
open Rnd Aes Cmac Kdf

set_option maxRecDepth 100000 in
set_option maxHeartbeats 1000000 in
theorem awake_mak : Mak 25 #[] (.bool true) := by
  intro w
  have H0 := Lib.hid (Since.refl w)
  obtain ⟨A, hA⟩ : ∃ A, A = derK kKey 0 := ⟨_, rfl⟩
  obtain ⟨B, hB⟩ : ∃ B, B = derK kKey 1 := ⟨_, rfl⟩
  have hAs : A.size = 16 := by rw [hA]; exact derK_size kKey (Or.inl rfl) 0
  have c1 := keys_yes kKey (Or.inl rfl) A B hA hB
  have c2 := key_noarg kKey 2 (Or.inl rfl) (Or.inr (by decide))
  have c3 := RefKdf.counter_yes kKey (inpS 1 16) 16 (Or.inl rfl) (by decide) (by decide) (by decide) B (by rw [hB]; rfl)
  have c4 := input_yes 1 32 (by decide) (by decide) _ rfl
  have c3' : Mak 50 #[.string kKey, .string ⟨#[0, 1, 0, 0, 2, 0, 128]⟩, .int .i64 16] (.tuple #[.string B, .int .i64 0]) := c3
  have c4' : Mak 30 #[.int .i64 1, .int .i64 32] (.string ⟨#[0, 1, 0, 0, 4, 1, 0]⟩) := c4
  unfold kKey at c1 c2 c3'
  have hz : ((A.size : Int) == 16) = true := by rw [beq_iff_eq]; omega
  clear hA hB c3 c4
  go_enter Try.func25, Try.ntmps25
  go_wp2_with fail
  refine c1.calls H0.out ?_
  intro w1 h1
  have H1 := Lib.hid h1
  clear h1
  go_wp2_with fail
  refine (c2).calls ?_
  go_wp2_with fail
  refine c3'.calls H1.out ?_
  intro w2 h2
  have H2 := Lib.hid h2
  clear h2
  go_wp2_with fail
  refine c4'.calls H2.out ?_
  intro w3 h3
  have H3 := Lib.hid h3
  clear h3
  go_wp2_with fail
  go_ret
  exact ⟨rfl, H3.out⟩
end Der
end Go.Proofs.Ytgbfdgopinnlbaa

/- Packages seal and its reference. -/
namespace Go.Proofs.Ytgbfdgopinnlbaa
open Go.RowKit
namespace Seal
open Rnd Aes Cmac Kdf Der Cbc

/-- payloads that may be -/
def payOk (p : ByteArray) : Prop := p.size % 16 = 0 ∧ 0 < p.size
instance (p : ByteArray) : Decidable (payOk p) := by unfold payOk; infer_instance
def joinS (a b : ByteArray) : ByteArray := bs (a.data.toList ++ b.data.toList)
theorem app_joinS (a b : ByteArray) : a ++ b = joinS a b := by
  apply ba_ext
  rw [app_list, joinS, list_bs]
theorem joinS_size (a b : ByteArray) : (joinS a b).size = a.size + b.size := by rw [← app_joinS, ByteArray.size_append]
def bindK (key top pay : ByteArray) : ByteArray := tagK (derK key 1) (joinS top pay)
theorem bindK_size (key top pay : ByteArray) : (bindK key top pay).size = 16 := tagK_size _ _
def cipK (key top pay : ByteArray) : ByteArray := encC (derK key 0) (bindK key top pay) pay

set_option maxRecDepth 100000 in
theorem bind_nokey (key top pay : ByteArray) (_hm : key.size ≤ 1000000) (hk : ¬ keyOk key) : Mak 35 #[.string key, .string top, .string pay] (.tuple #[.string ⟨#[]⟩, .int .i64 2]) := by
  intro w
  have H0 := Lib.hid (Since.refl w)
  have c1 := Der.keys_nokey key hk
  clear hk
  go_enter Try.func35, Try.ntmps35
  go_wp2_with fail
  refine (c1).calls ?_
  go_wp2_with fail
  go_ret2
  exact ⟨rfl, H0.out⟩
set_option maxRecDepth 100000 in
theorem bind_nosize (key top pay : ByteArray) (hk : keyOk key) (hp : ¬ payOk pay) (hpm : pay.size ≤ 1000000) : Mak 35 #[.string key, .string top, .string pay] (.tuple #[.string ⟨#[]⟩, .int .i64 4]) := by
  intro w
  have H0 := Lib.hid (Since.refl w)
  have c1 := Der.keys_yes key hk _ _ rfl rfl
  generalize derK key 0 = A at c1
  generalize derK key 1 = B at c1
  unfold payOk at hp
  by_cases h0 : pay.size = 0
  · obtain rfl : pay = ⟨#[]⟩ := ba_ext (List.eq_nil_of_length_eq_zero (by have h8 : pay.size = pay.data.toList.length := rfl; omega))
    clear hk hp h0
    go_enter Try.func35, Try.ntmps35
    go_wp2_with fail
    refine c1.calls H0.out ?_
    intro w1 h1
    have H1 := Lib.hid h1
    clear h1
    go_wp2_with fail
    go_ret2
    exact ⟨rfl, H1.out⟩
  · have b1 := some_bytes pay (by omega)
    have b2 := some_bytes_f pay (by omega)
    have g3 : (pay.size : Int).tmod 16 = (pay.size : Int) % 16 := Int.tmod_eq_emod_of_nonneg (by omega)
    have t3 : (((pay.size : Int) % 16) == 0) = false := by rw [beq_eq_false_iff_ne]; omega
    have t4 : (((pay.size : Int) % 16) != 0) = true := by rw [bne_iff_ne]; omega
    have t5 : ((pay.size : Int).tmod 16 == 0) = false := by rw [g3]; exact t3
    have t6 : ((pay.size : Int).tmod 16 != 0) = true := by rw [g3]; exact t4
    clear hk hp g3 h0
    go_enter Try.func35, Try.ntmps35
    go_wp2_with fail
    refine c1.calls H0.out ?_
    intro w1 h1
    have H1 := Lib.hid h1
    clear h1
    go_wp2_with fail
    go_ret2
    exact ⟨rfl, H1.out⟩
set_option maxRecDepth 100000 in
theorem bind_yes (key top pay : ByteArray) (hk : keyOk key) (hp : payOk pay) (hpm : pay.size ≤ 1000000 ∧ top.size + pay.size ≤ 1000000) (X : ByteArray) (hX : X = bindK key top pay) : Mak 35 #[.string key, .string top, .string pay] (.tuple #[.string X, .int .i64 0]) := by
  intro w
  have H0 := Lib.hid (Since.refl w)
  have c1 := Der.keys_yes key hk _ _ rfl rfl
  obtain ⟨J, hJ⟩ : ∃ J, J = joinS top pay := ⟨_, rfl⟩
  have f1 : top ++ pay = J := by rw [hJ, app_joinS]
  have c2 := Cmac.tag_yes (derK key 1) J (derK_ok key hk 1) (by rw [hJ, joinS_size]; exact hpm.2) X (by rw [hX, bindK, hJ])
  generalize derK key 0 = A at c1
  generalize derK key 1 = B at c1 c2
  unfold payOk at hp
  have b1 := some_bytes pay (by omega)
  have b2 := some_bytes_f pay (by omega)
  have g3 : (pay.size : Int).tmod 16 = (pay.size : Int) % 16 := Int.tmod_eq_emod_of_nonneg (by omega)
  have t3 : (((pay.size : Int) % 16) == 0) = true := by rw [beq_iff_eq]; omega
  have t4 : (((pay.size : Int) % 16) != 0) = false := by rw [bne_eq_false_iff_eq]; omega
  have t5 : ((pay.size : Int).tmod 16 == 0) = true := by rw [g3]; exact t3
  have t6 : ((pay.size : Int).tmod 16 != 0) = false := by rw [g3]; exact t4
  have z1 : ¬ 9223372036854775807 < top.size + pay.size := by omega
  clear hk hp g3 hX hJ
  go_enter Try.func35, Try.ntmps35
  go_wp2_with fail
  refine c1.calls H0.out ?_
  intro w1 h1
  have H1 := Lib.hid h1
  clear h1
  go_wp2_with fail
  refine c2.calls H1.out ?_
  intro w2 h2
  have H2 := Lib.hid h2
  clear h2
  go_wp2_with fail
  go_ret2
  exact ⟨rfl, H2.out⟩
set_option maxRecDepth 100000 in
theorem rbind_nokey (key top pay : ByteArray) (hm : key.size ≤ 1000000) (hk : ¬ keyOk key) : Mak 36 #[.string key, .string top, .string pay] (.tuple #[.string ⟨#[]⟩, .int .i64 2]) := by
  intro w
  have H0 := Lib.hid (Since.refl w)
  have c1 := RefDer.keys_nokey key hm hk
  clear hk
  go_enter Try.func36, Try.ntmps36
  go_wp2_with fail
  refine (c1).calls ?_
  go_wp2_with fail
  go_ret2
  exact ⟨rfl, H0.out⟩
set_option maxRecDepth 100000 in
theorem rbind_nosize (key top pay : ByteArray) (hk : keyOk key) (hp : ¬ payOk pay) (hpm : pay.size ≤ 1000000) : Mak 36 #[.string key, .string top, .string pay] (.tuple #[.string ⟨#[]⟩, .int .i64 4]) := by
  intro w
  have H0 := Lib.hid (Since.refl w)
  have c1 := RefDer.keys_yes key hk _ _ rfl rfl
  generalize derK key 0 = A at c1
  generalize derK key 1 = B at c1
  unfold payOk at hp
  by_cases h0 : pay.size = 0
  · obtain rfl : pay = ⟨#[]⟩ := ba_ext (List.eq_nil_of_length_eq_zero (by have h8 : pay.size = pay.data.toList.length := rfl; omega))
    clear hk hp h0
    go_enter Try.func36, Try.ntmps36
    go_wp2_with fail
    refine c1.calls H0.out ?_
    intro w1 h1
    have H1 := Lib.hid h1
    clear h1
    go_wp2_with fail
    go_ret2
    exact ⟨rfl, H1.out⟩
  · have b1 := some_bytes pay (by omega)
    have b2 := some_bytes_f pay (by omega)
    have g3 : (pay.size : Int).tmod 16 = (pay.size : Int) % 16 := Int.tmod_eq_emod_of_nonneg (by omega)
    have t3 : (((pay.size : Int) % 16) == 0) = false := by rw [beq_eq_false_iff_ne]; omega
    have t4 : (((pay.size : Int) % 16) != 0) = true := by rw [bne_iff_ne]; omega
    have t5 : ((pay.size : Int).tmod 16 == 0) = false := by rw [g3]; exact t3
    have t6 : ((pay.size : Int).tmod 16 != 0) = true := by rw [g3]; exact t4
    clear hk hp g3 h0
    go_enter Try.func36, Try.ntmps36
    go_wp2_with fail
    refine c1.calls H0.out ?_
    intro w1 h1
    have H1 := Lib.hid h1
    clear h1
    go_wp2_with fail
    go_ret2
    exact ⟨rfl, H1.out⟩
set_option maxRecDepth 100000 in
theorem rbind_yes (key top pay : ByteArray) (hk : keyOk key) (hp : payOk pay) (hpm : pay.size ≤ 1000000 ∧ top.size + pay.size ≤ 1000000) (X : ByteArray) (hX : X = bindK key top pay) : Mak 36 #[.string key, .string top, .string pay] (.tuple #[.string X, .int .i64 0]) := by
  intro w
  have H0 := Lib.hid (Since.refl w)
  have c1 := RefDer.keys_yes key hk _ _ rfl rfl
  obtain ⟨J, hJ⟩ : ∃ J, J = joinS top pay := ⟨_, rfl⟩
  have f1 : top ++ pay = J := by rw [hJ, app_joinS]
  have c2 := RefCmac.tag_yes (derK key 1) J (derK_ok key hk 1) (by rw [hJ, joinS_size]; exact hpm.2) X (by rw [hX, bindK, hJ])
  generalize derK key 0 = A at c1
  generalize derK key 1 = B at c1 c2
  unfold payOk at hp
  have b1 := some_bytes pay (by omega)
  have b2 := some_bytes_f pay (by omega)
  have g3 : (pay.size : Int).tmod 16 = (pay.size : Int) % 16 := Int.tmod_eq_emod_of_nonneg (by omega)
  have t3 : (((pay.size : Int) % 16) == 0) = true := by rw [beq_iff_eq]; omega
  have t4 : (((pay.size : Int) % 16) != 0) = false := by rw [bne_eq_false_iff_eq]; omega
  have t5 : ((pay.size : Int).tmod 16 == 0) = true := by rw [g3]; exact t3
  have t6 : ((pay.size : Int).tmod 16 != 0) = false := by rw [g3]; exact t4
  have z1 : ¬ 9223372036854775807 < top.size + pay.size := by omega
  clear hk hp g3 hX hJ
  go_enter Try.func36, Try.ntmps36
  go_wp2_with fail
  refine c1.calls H0.out ?_
  intro w1 h1
  have H1 := Lib.hid h1
  clear h1
  go_wp2_with fail
  refine c2.calls H1.out ?_
  intro w2 h2
  have H2 := Lib.hid h2
  clear h2
  go_wp2_with fail
  go_ret2
  exact ⟨rfl, H2.out⟩

set_option maxRecDepth 100000 in
theorem seal_bad (key top pay : ByteArray) (e : Int) (hne : (e != 0) = true) (c1 : Mak 35 #[.string key, .string top, .string pay] (.tuple #[.string ⟨#[]⟩, .int .i64 e])) : Mak 33 #[.string key, .string top, .string pay] (.tuple #[.string ⟨#[]⟩, .string ⟨#[]⟩, .int .i64 e]) := by
  intro w
  have H0 := Lib.hid (Since.refl w)
  go_enter Try.func33, Try.ntmps33
  go_wp2_with fail
  refine c1.calls H0.out ?_
  intro w1 h1
  have H1 := Lib.hid h1
  clear h1
  go_wp2_with fail
  go_ret3
  exact ⟨rfl, H1.out⟩
set_option maxRecDepth 100000 in
theorem rseal_bad (key top pay : ByteArray) (e : Int) (hne : (e != 0) = true) (c1 : Mak 36 #[.string key, .string top, .string pay] (.tuple #[.string ⟨#[]⟩, .int .i64 e])) : Mak 34 #[.string key, .string top, .string pay] (.tuple #[.string ⟨#[]⟩, .string ⟨#[]⟩, .int .i64 e]) := by
  intro w
  have H0 := Lib.hid (Since.refl w)
  go_enter Try.func34, Try.ntmps34
  go_wp2_with fail
  refine c1.calls H0.out ?_
  intro w1 h1
  have H1 := Lib.hid h1
  clear h1
  go_wp2_with fail
  go_ret3
  exact ⟨rfl, H1.out⟩
set_option maxRecDepth 100000 in
theorem seal_yes (key top pay : ByteArray) (hk : keyOk key) (hp : payOk pay) (hpm : pay.size ≤ 1000000 ∧ top.size + pay.size ≤ 1000000) (X T : ByteArray) (hX : X = cipK key top pay) (hT : T = bindK key top pay) : Mak 33 #[.string key, .string top, .string pay] (.tuple #[.string X, .string T, .int .i64 0]) := by
  intro w
  have H0 := Lib.hid (Since.refl w)
  have c1 := bind_yes key top pay hk hp hpm T hT
  have c2 := Der.keys_yes key hk _ _ rfl rfl
  unfold payOk at hp
  have c3 := Cbc.enc_yes (derK key 0) T pay (derK_ok key hk 0) (by rw [hT]; exact bindK_size _ _ _) hp.1 hpm.1 X (by rw [hX, cipK, hT])
  generalize derK key 0 = A at c2 c3
  generalize derK key 1 = B at c2
  clear hk hp hX hT
  go_enter Try.func33, Try.ntmps33
  go_wp2_with fail
  refine c1.calls H0.out ?_
  intro w1 h1
  have H1 := Lib.hid h1
  clear h1
  go_wp2_with fail
  refine c2.calls H1.out ?_
  intro w2 h2
  have H2 := Lib.hid h2
  clear h2
  go_wp2_with fail
  refine c3.calls H2.out ?_
  intro w3 h3
  have H3 := Lib.hid h3
  clear h3
  go_wp2_with fail
  go_ret3
  exact ⟨rfl, H3.out⟩
set_option maxRecDepth 100000 in
theorem rseal_yes (key top pay : ByteArray) (hk : keyOk key) (hp : payOk pay) (hpm : pay.size ≤ 1000000 ∧ top.size + pay.size ≤ 1000000) (X T : ByteArray) (hX : X = cipK key top pay) (hT : T = bindK key top pay) : Mak 34 #[.string key, .string top, .string pay] (.tuple #[.string X, .string T, .int .i64 0]) := by
  intro w
  have H0 := Lib.hid (Since.refl w)
  have c1 := rbind_yes key top pay hk hp hpm T hT
  have c2 := RefDer.keys_yes key hk _ _ rfl rfl
  unfold payOk at hp
  have c3 := RefCbc.enc_yes (derK key 0) T pay (derK_ok key hk 0) (by rw [hT]; exact bindK_size _ _ _) hp.1 hpm.1 X (by rw [hX, cipK, hT])
  generalize derK key 0 = A at c2 c3
  generalize derK key 1 = B at c2
  clear hk hp hX hT
  go_enter Try.func34, Try.ntmps34
  go_wp2_with fail
  refine c1.calls H0.out ?_
  intro w1 h1
  have H1 := Lib.hid h1
  clear h1
  go_wp2_with fail
  refine c2.calls H1.out ?_
  intro w2 h2
  have H2 := Lib.hid h2
  clear h2
  go_wp2_with fail
  refine c3.calls H2.out ?_
  intro w3 h3
  have H3 := Lib.hid h3
  clear h3
  go_wp2_with fail
  go_ret3
  exact ⟨rfl, H3.out⟩

def blkF (n m : Int) : Int := if n < 0 ∨ 65552 < n ∨ m < 0 ∨ 65552 < m then 0 else (blkN (n + m).toNat : Nat) + 1 + m / 16
set_option maxRecDepth 100000 in
theorem blocks_ret (n m : Int) (x : Int) (hx : x = blkF n m) : Ret 37 #[.int .i64 n, .int .i64 m] (.int .i64 x) := by
  intro w
  unfold blkF at hx
  by_cases h : n < 0 ∨ 65552 < n ∨ m < 0 ∨ 65552 < m
  · rw [if_pos h] at hx
    subst hx
    by_cases h1 : n < 0
    · have t1 : decide (n < 0) = true := decide_eq_true h1
      clear h
      go_enter Try.func37, Try.ntmps37
      go_wp2_with fail
      go_ret
      exact ⟨rfl, rfl⟩
    · have t1 : decide (n < 0) = false := decide_eq_false h1
      by_cases h2 : 65552 < n
      · have t2 : decide ((65552 : Int) < n) = true := decide_eq_true h2
        by_cases h3 : m < 0
        · have t3 : decide (m < 0) = true := decide_eq_true h3
          clear h
          go_enter Try.func37, Try.ntmps37
          go_wp2_with fail
          go_ret
          exact ⟨rfl, rfl⟩
        · have t3 : decide (m < 0) = false := decide_eq_false h3
          clear h
          go_enter Try.func37, Try.ntmps37
          go_wp2_with fail
          go_ret
          exact ⟨rfl, rfl⟩
      · have t2 : decide ((65552 : Int) < n) = false := decide_eq_false h2
        by_cases h3 : m < 0
        · have t3 : decide (m < 0) = true := decide_eq_true h3
          clear h
          go_enter Try.func37, Try.ntmps37
          go_wp2_with fail
          go_ret
          exact ⟨rfl, rfl⟩
        · have t3 : decide (m < 0) = false := decide_eq_false h3
          have t4 : decide ((65552 : Int) < m) = true := decide_eq_true (by omega)
          clear h
          go_enter Try.func37, Try.ntmps37
          go_wp2_with fail
          go_ret
          exact ⟨rfl, rfl⟩
  · rw [if_neg h] at hx
    have t1 : decide (n < 0) = false := decide_eq_false (by omega)
    have t2 : decide ((65552 : Int) < n) = false := decide_eq_false (by omega)
    have t3 : decide (m < 0) = false := decide_eq_false (by omega)
    have t4 : decide ((65552 : Int) < m) = false := decide_eq_false (by omega)
    obtain ⟨b, hb⟩ : ∃ b, b = blkN (n + m).toNat := ⟨_, rfl⟩
    have hb9 : b ≤ 140000 := by rw [hb]; unfold blkN; split <;> omega
    have c1 := Cmac.blocks_nat (n + m).toNat (by omega) (b : Int) (by rw [hb])
    rw [show (((n + m).toNat : Nat) : Int) = n + m from by omega] at c1
    rw [← hb] at hx
    have i1 : 0 ≤ n ∧ n ≤ 65552 ∧ 0 ≤ m ∧ m ≤ 65552 := by omega
    obtain ⟨i1, i2, i3, i4⟩ := i1
    have hx2 := hx.symm
    clear h hb hx
    go_enter Try.func37, Try.ntmps37
    go_wp2_with fail
    refine (c1).calls ?_
    go_wp2_with fail
    go_ret
    exact ⟨rfl, rfl⟩
set_option maxRecDepth 100000 in
theorem rblocks_ret (n m : Int) (x : Int) (hx : x = blkF n m) : Ret 38 #[.int .i64 n, .int .i64 m] (.int .i64 x) := by
  intro w
  unfold blkF at hx
  by_cases h : n < 0 ∨ 65552 < n ∨ m < 0 ∨ 65552 < m
  · rw [if_pos h] at hx
    subst hx
    by_cases h1 : n < 0
    · have t1 : decide (n < 0) = true := decide_eq_true h1
      clear h
      go_enter Try.func38, Try.ntmps38
      go_wp2_with fail
      go_ret
      exact ⟨rfl, rfl⟩
    · have t1 : decide (n < 0) = false := decide_eq_false h1
      by_cases h2 : 65552 < n
      · have t2 : decide ((65552 : Int) < n) = true := decide_eq_true h2
        by_cases h3 : m < 0
        · have t3 : decide (m < 0) = true := decide_eq_true h3
          clear h
          go_enter Try.func38, Try.ntmps38
          go_wp2_with fail
          go_ret
          exact ⟨rfl, rfl⟩
        · have t3 : decide (m < 0) = false := decide_eq_false h3
          clear h
          go_enter Try.func38, Try.ntmps38
          go_wp2_with fail
          go_ret
          exact ⟨rfl, rfl⟩
      · have t2 : decide ((65552 : Int) < n) = false := decide_eq_false h2
        by_cases h3 : m < 0
        · have t3 : decide (m < 0) = true := decide_eq_true h3
          clear h
          go_enter Try.func38, Try.ntmps38
          go_wp2_with fail
          go_ret
          exact ⟨rfl, rfl⟩
        · have t3 : decide (m < 0) = false := decide_eq_false h3
          have t4 : decide ((65552 : Int) < m) = true := decide_eq_true (by omega)
          clear h
          go_enter Try.func38, Try.ntmps38
          go_wp2_with fail
          go_ret
          exact ⟨rfl, rfl⟩
  · rw [if_neg h] at hx
    have t1 : decide (n < 0) = false := decide_eq_false (by omega)
    have t2 : decide ((65552 : Int) < n) = false := decide_eq_false (by omega)
    have t3 : decide (m < 0) = false := decide_eq_false (by omega)
    have t4 : decide ((65552 : Int) < m) = false := decide_eq_false (by omega)
    obtain ⟨b, hb⟩ : ∃ b, b = blkN (n + m).toNat := ⟨_, rfl⟩
    have hb9 : b ≤ 140000 := by rw [hb]; unfold blkN; split <;> omega
    have c1 := RefCmac.blocks_nat (n + m).toNat (by omega) (b : Int) (by rw [hb])
    rw [show (((n + m).toNat : Nat) : Int) = n + m from by omega] at c1
    rw [← hb] at hx
    have i1 : 0 ≤ n ∧ n ≤ 65552 ∧ 0 ≤ m ∧ m ≤ 65552 := by omega
    obtain ⟨i1, i2, i3, i4⟩ := i1
    have hx2 := hx.symm
    clear h hb hx
    go_enter Try.func38, Try.ntmps38
    go_wp2_with fail
    refine (c1).calls ?_
    go_wp2_with fail
    go_ret
    exact ⟨rfl, rfl⟩
end Seal
end Go.Proofs.Ytgbfdgopinnlbaa

/- What the law calls awake, for layer 37. -/
namespace Go.Proofs.Ytgbfdgopinnlbaa
open Go.RowKit
namespace Seal
open Rnd Aes Cmac Kdf Der Cbc

def sTop : ByteArray := ⟨#[116, 111, 112]⟩
def sPay : ByteArray := ⟨#[102, 101, 100, 99, 98, 97, 57, 56, 55, 54, 53, 52, 51, 50, 49, 48]⟩
def sJoin : ByteArray := ⟨#[116, 111, 112, 102, 101, 100, 99, 98, 97, 57, 56, 55, 54, 53, 52, 51, 50, 49, 48]⟩
theorem join_s : joinS sTop sPay = sJoin := rfl
theorem cipK_size (key top pay : ByteArray) (hp : payOk pay) : (cipK key top pay).size = pay.size := by
  unfold payOk at hp
  unfold cipK encC
  rw [size_bs, chainE_len _ (encK_size _)]; omega
set_option maxRecDepth 100000 in
set_option maxHeartbeats 1000000 in
theorem awake_mak : Mak 32 #[] (.bool true) := by
  intro w
  have H0 := Lib.hid (Since.refl w)
  have hp : payOk sPay := ⟨rfl, by decide⟩
  obtain ⟨C, hC⟩ : ∃ C, C = cipK kKey sTop sPay := ⟨_, rfl⟩
  obtain ⟨T, hT⟩ : ∃ T, T = bindK kKey sTop sPay := ⟨_, rfl⟩
  obtain ⟨A, hA⟩ : ∃ A, A = derK kKey 0 := ⟨_, rfl⟩
  obtain ⟨B, hB⟩ : ∃ B, B = derK kKey 1 := ⟨_, rfl⟩
  have hCs : C.size = 16 := by rw [hC]; exact cipK_size kKey sTop sPay hp
  have c1 := seal_yes kKey sTop sPay (Or.inl rfl) hp (by decide) C T hC hT
  have c2 := bind_yes kKey sTop sPay (Or.inl rfl) hp (by decide) T hT
  have c3 := RefDer.keys_yes kKey (Or.inl rfl) A B hA hB
  have c4 := RefCmac.tag_yes B sJoin (by rw [hB]; exact derK_ok kKey (Or.inl rfl) 1) (by decide) T (by rw [hT, hB]; rfl)
  have c5 := blocks_ret 3 16 4 rfl
  unfold kKey sTop sPay at c1 c2
  unfold kKey at c3
  unfold sJoin at c4
  have hz : ((C.size : Int) == 16) = true := by rw [beq_iff_eq]; omega
  clear hA hB hC hT hCs hp
  go_enter Try.func32, Try.ntmps32
  go_wp2_with fail
  refine c1.calls H0.out ?_
  intro w1 h1
  have H1 := Lib.hid h1
  clear h1
  go_wp2_with fail
  refine c2.calls H1.out ?_
  intro w2 h2
  have H2 := Lib.hid h2
  clear h2
  go_wp2_with fail
  refine c3.calls H2.out ?_
  intro w3 h3
  have H3 := Lib.hid h3
  clear h3
  go_wp2_with fail
  refine c4.calls H3.out ?_
  intro w4 h4
  have H4 := Lib.hid h4
  clear h4
  go_wp2_with fail
  refine (c5).calls ?_
  go_wp2_with fail
  go_ret
  exact ⟨rfl, H4.out⟩
end Seal
end Go.Proofs.Ytgbfdgopinnlbaa
