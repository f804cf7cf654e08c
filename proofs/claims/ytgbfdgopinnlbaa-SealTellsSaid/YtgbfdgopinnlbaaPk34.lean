/- Joined texts. -/
-- PACK: YtgbfdgopinnlbaaCmacAwake YtgbfdgopinnlbaaKdf YtgbfdgopinnlbaaRefKdf YtgbfdgopinnlbaaKdfAwake YtgbfdgopinnlbaaDer YtgbfdgopinnlbaaDerIn YtgbfdgopinnlbaaDer2 YtgbfdgopinnlbaaRefDer
import Derived.Test.YtgbfdgopinnlbaaPk33
import Derived.Test.YtgbfdgopinnlbaaPk22
import Derived.Test.YtgbfdgopinnlbaaPk27
import Derived.Test.YtgbfdgopinnlbaaPk7
import Derived.StillTailTactics

/- Package cmac: a tag checked; what the law calls awake, for layer 11. -/
namespace Go.Proofs.Ytgbfdgopinnlbaa
open Go.RowKit
namespace Cmac
open Rnd Aes
set_option maxRecDepth 100000 in
theorem check_no (key s t : ByteArray) (hm : key.size ≤ 1000000) (hk : ¬ keyOk key) : Ret 69 #[.string key, .string s, .string t] (.tuple #[.bool false, .int .i64 2]) := by
  intro w
  have c1 := tag_no key s hm hk
  clear hk
  go_enter Try.func69, Try.ntmps69
  go_wp2_with fail
  refine (c1).calls ?_
  go_wp2_with fail
  go_ret2
  exact ⟨rfl, rfl⟩
set_option maxRecDepth 100000 in
theorem check_yes (key s t : ByteArray) (hk : keyOk key) (hm : s.size ≤ 1000000) (ht : t.size ≤ 1000000) (q : Bool) (hq : q = decide (tagK key s = t)) : Mak 69 #[.string key, .string s, .string t] (.tuple #[.bool q, .int .i64 0]) := by
  intro w
  have H0 := Lib.hid (Since.refl w)
  obtain ⟨T, hT⟩ : ∃ T, T = tagK key s := ⟨_, rfl⟩
  have c1 := tag_yes key s hk hm T hT
  obtain ⟨n, c2⟩ := Scan.scan_m T t (by rw [hT, tagK_size]; omega) (by omega) q (by rw [hT]; exact hq)
  clear hk hT hq
  go_enter Try.func69, Try.ntmps69
  go_wp2_with fail
  refine c1.calls H0.out ?_
  intro w1 h1
  have H1 := Lib.hid h1
  clear h1
  go_wp2_with fail
  refine c2.calls H1.out ?_
  intro w2 h2
  have H2 := Lib.hid h2
  clear h2
  go_wp2_with fail
  go_ret2
  exact ⟨rfl, H2.out⟩
def rfcK : ByteArray := ⟨#[43, 126, 21, 22, 40, 174, 210, 166, 171, 247, 21, 136, 9, 207, 79, 60]⟩
def rfcT : ByteArray := ⟨#[187, 29, 105, 41, 233, 89, 55, 40, 127, 163, 125, 18, 155, 117, 103, 70]⟩
theorem rfc : tagK rfcK ⟨#[]⟩ = rfcT := by
  apply ba_ext
  decide +kernel
end Cmac
end Go.Proofs.Ytgbfdgopinnlbaa

/- Package kdf. -/
namespace Go.Proofs.Ytgbfdgopinnlbaa
open Go.RowKit
namespace Kdf
open Rnd Aes Cmac

/-- how many tags n bytes want -/
def rndN (n : Int) : Nat := if n < 1 ∨ 4080 < n then 0 else (n.toNat - 1) / 16 + 1
set_option maxRecDepth 100000 in
theorem rounds_ret (n : Int) (hn : n ≤ 9223372036854775807) (x : Int) (hx : x = ((rndN n : Nat) : Int)) : Ret 84 #[.int .i64 n] (.int .i64 x) := by
  intro w
  by_cases h : n < 1 ∨ 4080 < n
  · have hx0 : x = 0 := by rw [hx, rndN, if_pos h]; rfl
    subst hx0
    clear hx
    by_cases h1 : n < 1
    · have t1 : decide (n < 1) = true := decide_eq_true h1
      clear h
      go_enter Try.func84, Try.ntmps84
      go_wp2_with fail
      go_ret
      exact ⟨rfl, rfl⟩
    · have t1 : decide (n < 1) = false := decide_eq_false h1
      have t2 : decide ((4080 : Int) < n) = true := decide_eq_true (by omega)
      clear h
      go_enter Try.func84, Try.ntmps84
      go_wp2_with fail
      go_ret
      exact ⟨rfl, rfl⟩
  · have hx0 : x = (n - 1) / 16 + 1 := by rw [hx, rndN, if_neg h]; omega
    subst hx0
    have t1 : decide (n < 1) = false := decide_eq_false (by omega)
    have t2 : decide ((4080 : Int) < n) = false := decide_eq_false (by omega)
    have i1 : (0 : Int) ≤ n - 1 := by omega
    have i2 : n ≤ 4080 := by omega
    clear h hx
    go_enter Try.func84, Try.ntmps84
    go_wp2_with fail
    go_ret
    exact ⟨rfl, rfl⟩
def tgT (fixed : ByteArray) (i : Nat) : ByteArray := bs (UInt8.ofNat (i + 1) :: fixed.data.toList)
def tg (key fixed : ByteArray) (i : Nat) : ByteArray := tagK key (tgT fixed i)
def tags (key fixed : ByteArray) (k : Nat) : List ByteArray := (List.range k).map (tg key fixed)
theorem tags_len (key fixed : ByteArray) (k : Nat) : (tags key fixed k).length = k := by simp [tags]
theorem tags_succ (key fixed : ByteArray) (k : Nat) : tags key fixed (k + 1) = tags key fixed k ++ [tg key fixed k] := by simp [tags, List.range_succ]
def outL (key fixed : ByteArray) (k : Nat) : List UInt8 := Oct.cat (tags key fixed k)
theorem outL_succ (key fixed : ByteArray) (k : Nat) : outL key fixed (k + 1) = outL key fixed k ++ (tg key fixed k).data.toList := by
  unfold outL; rw [tags_succ, Oct.cat_snoc]
theorem outL_len (key fixed : ByteArray) (k : Nat) : (outL key fixed k).length = 16 * k := by
  induction k with
  | zero => rfl
  | succ k ih =>
    rw [outL_succ, List.length_append, ih]
    have : (tg key fixed k).data.toList.length = 16 := tagK_size _ _
    omega
def cntK (key fixed : ByteArray) (n : Int) : ByteArray := bs ((outL key fixed (rndN n)).take n.toNat)
set_option maxRecDepth 100000 in
theorem counter_nokey (key fixed : ByteArray) (n : Int) (hm : key.size ≤ 1000000) (hk : ¬ keyOk key) : Ret 52 #[.string key, .string fixed, .int .i64 n] (.tuple #[.string ⟨#[]⟩, .int .i64 2]) := by
  intro w
  have c1 := subkeys_no key hm hk
  clear hk
  go_enter Try.func52, Try.ntmps52
  go_wp2_with fail
  refine (c1).calls ?_
  go_wp2_with fail
  go_ret2
  exact ⟨rfl, rfl⟩
set_option maxRecDepth 100000 in
theorem counter_nosize (key fixed : ByteArray) (n : Int) (hk : keyOk key) (h9 : n ≤ 9223372036854775807) (hn : n < 1 ∨ 4080 < n) : Mak 52 #[.string key, .string fixed, .int .i64 n] (.tuple #[.string ⟨#[]⟩, .int .i64 4]) := by
  intro w
  have H0 := Lib.hid (Since.refl w)
  obtain ⟨A, hA⟩ : ∃ A, A = sub1 key := ⟨_, rfl⟩
  obtain ⟨B, hB⟩ : ∃ B, B = sub2 key := ⟨_, rfl⟩
  have c1 := subkeys_yes key hk A B hA hB
  have c2 := rounds_ret n h9 0 (by rw [rndN, if_pos hn]; rfl)
  clear hk hn hA hB
  go_enter Try.func52, Try.ntmps52
  go_wp2_with fail
  refine c1.calls H0.out ?_
  intro w1 h1
  have H1 := Lib.hid h1
  clear h1
  go_wp2_with fail
  refine (c2).calls ?_
  go_wp2_with fail
  go_ret2
  exact ⟨rfl, H1.out⟩
theorem cut_0 (s : ByteArray) (n : Nat) (h1 : 1 ≤ n) (hn : n ≤ 9223372036854775807) (hs : 0 < s.size) (hm : s.size ≤ 9223372036854775807) (X : ByteArray) (hX : X = bs (s.data.toList.take n)) : Ret 86 #[.string s, .int .i64 0, .int .i64 (n : Int)] (.string X) := fun w => by
  have h := Oct.cut_yes s 0 n w hm hn hs h1
  rw [List.drop_zero] at h
  rw [hX]; exact h
set_option maxRecDepth 100000 in
set_option maxHeartbeats 4000000 in
theorem counter_yes (key fixed : ByteArray) (m : Nat) (hk : keyOk key) (h1 : 1 ≤ m) (h2 : m ≤ 4080) (hf : fixed.size ≤ 100000) (X : ByteArray) (hX : X = cntK key fixed (m : Int)) : Mak 52 #[.string key, .string fixed, .int .i64 (m : Int)] (.tuple #[.string X, .int .i64 0]) := by
  intro w
  have H0 := Lib.hid (Since.refl w)
  obtain ⟨A, hA⟩ : ∃ A, A = sub1 key := ⟨_, rfl⟩
  obtain ⟨B, hB⟩ : ∃ B, B = sub2 key := ⟨_, rfl⟩
  have c1 := subkeys_yes key hk A B hA hB
  obtain ⟨n, hn⟩ : ∃ n, n = rndN (m : Int) := ⟨_, rfl⟩
  have hn2 : n = (m - 1) / 16 + 1 := by rw [hn, rndN, if_neg (by omega)]; simp
  have c2 := rounds_ret (m : Int) (by omega) (n : Int) (by rw [hn])
  have tn : ((n : Int) == 0) = false := by rw [beq_eq_false_iff_ne]; omega
  have hn255 : n ≤ 255 := by omega
  have HN2 := Lib.hid hn2
  have HX : Hid (X = bs ((outL key fixed n).take m)) := Lib.hid (by rw [hX, cntK, ← hn]; rfl)
  have HK := Lib.hid hk
  clear hk hX hA hB hn hn2
  go_enter Try.func52, Try.ntmps52
  go_wp2_with fail
  refine c1.calls H0.out ?_
  intro w1 h1
  have H1 := Lib.hid h1
  clear h1
  go_wp2_with fail
  refine (c2).calls ?_
  go_wp2_with fail
  refine (c2).calls ?_
  go_wp2_with fail
  have HP0 : Hid (Sched.PK w1 (.slice none 0 0) [] w1) := Lib.hid ⟨Since.refl _, World.ownsRow_nil _ _ _ _⟩
  go_loopw [11, 29] (fun v i wr => ∃ (k : Nat) (V : Value), k ≤ n ∧ i = .int .i64 (k : Int) ∧ V = v ∧ Hid (Sched.PK w1 V (tags key fixed k) wr)) (fun _ i _ => n - (intOf i).toNat)
  case atStart => exact ⟨0, _, by omega, rfl, rfl, HP0⟩
  case round =>
    clear HP0
    obtain ⟨k, V, hkn, rfl, rfl, HP⟩ := hrel
    by_cases hlt : k < n
    · have hd : decide ((k : Int) < (n : Int)) = true := decide_eq_true (by omega)
      have e1 : IntKind.u64.wrap (k : Int) = (k : Int) := IntWalk.u64_in _ (by omega)
      have e2 : IntKind.u64.wrap ((k : Int) + 1) = (k : Int) + 1 := IntWalk.u64_in _ (by omega)
      obtain ⟨p, hp⟩ : ∃ p, p = bs [UInt8.ofNat (k + 1)] := ⟨_, rfl⟩
      have c3 : Mak 53 #[.int .u64 ((k : Int) + 1), .int .i64 1] (.string p) := fun w => by
        have h := Oct.put_mid ((k + 1 : Nat) : Int) 1 w (by omega) (by omega) (by decide) (by decide)
        rw [Sched.put1 (k + 1) (by omega), ← hp] at h
        simpa using h
      obtain ⟨J, hJ⟩ : ∃ J, J = tgT fixed k := ⟨_, rfl⟩
      have hJs : J.size = fixed.size + 1 := by rw [hJ, tgT, size_bs, List.length_cons]; rfl
      have hJc : J = bs (Oct.cat [p, fixed]) := by rw [hJ, hp, Oct.cat_two]; rfl
      have c8 := fun W => Oct.join_lit W [p, fixed] 2 rfl #[.string p, .string fixed] rfl J hJc (by omega) (by decide)
      obtain ⟨T, hT⟩ : ∃ T, T = tg key fixed k := ⟨_, rfl⟩
      have c4 := tag_yes key J HK.out (by omega) T (by rw [hT, tg, hJ])
      have HC8 := Lib.hid c8
      have HT := Lib.hid hT
      have HF := Lib.hid (Since.refl wr)
      clear hp hJ hJs hJc c8 hT
      go_wp2_with fail
      refine c3.calls HF.out ?_
      intro w2 h2
      have H2 := Lib.hid h2
      clear h2
      go_wp2_with fail
      refine (HC8.out w2).mono ?_
      rintro e w3 ⟨rfl, h3⟩
      have H3 := Lib.hid (Since.step H2.out h3)
      clear h3
      go_wp2_with fail
      refine (c4).calls H3.out ?_
      intro w4 h4
      have H4 := Lib.hid h4
      clear h4
      have hP4 := Sched.pkstep H4.out HP
      have hO4 := hP4.out.own
      unfold Strs at hO4
      rw [tags_len] at hO4
      have HO4 := Lib.hid hO4
      have HS4 := Lib.hid hP4.out.since
      clear hP4 hO4
      go_wp2_with (at_builtin; refine app_one elemS rfl _ _ rfl w1 w4 V k _ (by rfl) HO4.out HS4.out _ (by rfl) rfl (by omega) (by decide) ?_)
      intro v' w5 hO5 hS5
      have HO5 := Lib.hid hO5
      clear hO5
      have HS5 := Lib.hid hS5
      clear hS5
      go_wp2_with fail
      go_roundw
      case rel => exact ⟨k + 1, _, by omega, by go_num, rfl, Lib.hid ⟨HS5.out, by unfold Strs; rw [tags_len, tags_succ, List.map_append, ← HT.out]; exact HO5.out⟩⟩
      case measure => simp [intOf]; omega
    · have hd : decide ((k : Int) < (n : Int)) = false := decide_eq_false (by omega)
      have hkn2 : k = n := by omega
      obtain ⟨J, hJ⟩ : ∃ J, J = bs (outL key fixed k) := ⟨_, rfl⟩
      have hJs : J.size = 16 * k := by rw [hJ, size_bs, outL_len]
      have c5 : Calls Try.prog 85 #[V] wr fun e w' => e = .returned (.string J) ∧ Below wr.heap.size wr w' := by
        rw [hJ]
        exact Oct.join_strs wr V _ (Strs.read HP.out.own) (by show (outL key fixed k).length ≤ _; rw [outL_len]; omega) (by rw [tags_len]; omega)
      have c6 := cut_0 J m (by omega) (by omega) (by have := HN2.out; omega) (by omega) X (by rw [HX.out, hJ, list_bs, hkn2])
      clear hJ hJs hkn2
      have H_c5 := Lib.hid c5
      clear c5
      go_wp2_with fail
      refine H_c5.out.mono ?_
      rintro e w5 ⟨rfl, h5⟩
      have H5 := Lib.hid (Since.step (Since.step H1.out HP.out.since) h5)
      clear h5
      go_wp2_with fail
      refine (c6).calls ?_
      go_wp2_with fail
      go_ret2
      exact ⟨rfl, H5.out⟩
end Kdf
end Go.Proofs.Ytgbfdgopinnlbaa

/- The reference of kdf. -/
namespace Go.Proofs.Ytgbfdgopinnlbaa
open Go.RowKit
namespace RefKdf
open Rnd Aes Cmac Kdf

set_option maxRecDepth 100000 in
theorem rounds_no (n : Int) (h : n < 1 ∨ 4080 < n) : Ret 82 #[.int .i64 n] (.int .i64 0) := by
  intro w
  by_cases h1 : n < 1
  · have t1 : decide (n < 1) = true := decide_eq_true h1
    clear h
    go_enter Try.func82, Try.ntmps82
    go_wp2_with fail
    go_ret
    exact ⟨rfl, rfl⟩
  · have t1 : decide (n < 1) = false := decide_eq_false h1
    have t2 : decide ((4080 : Int) < n) = true := decide_eq_true (by omega)
    clear h
    go_enter Try.func82, Try.ntmps82
    go_wp2_with fail
    go_ret
    exact ⟨rfl, rfl⟩
set_option maxRecDepth 100000 in
theorem rounds_yes (m n : Nat) (h1 : 1 ≤ m) (h2 : m ≤ 4080) (hn : n = (m - 1) / 16 + 1) : Ret 82 #[.int .i64 (m : Int)] (.int .i64 (n : Int)) := by
  intro w
  have t1 : decide ((m : Int) < 1) = false := decide_eq_false (by omega)
  have t2 : decide ((4080 : Int) < (m : Int)) = false := decide_eq_false (by omega)
  have HN := Lib.hid hn
  have hn9 : n ≤ 255 := by omega
  clear hn
  go_enter Try.func82, Try.ntmps82
  go_wp2_with fail
  go_loop [3] (fun i => ∃ k : Nat, k ≤ n ∧ i = .int .i64 (k : Int)) (fun i => n - (intOf i).toNat)
  case atStart => exact ⟨0, by omega, rfl⟩
  case round =>
    obtain ⟨k, hk, rfl⟩ := hrel
    by_cases hlt : k < n
    · have hd : decide ((16 : Int) * (k : Int) < (m : Int)) = true := decide_eq_true (by have := HN.out; omega)
      go_wp2_with fail
      go_round
      case rel => exact ⟨k + 1, by omega, by go_num⟩
      case measure => simp [intOf]; omega
    · obtain rfl : k = n := by omega
      have hd : decide ((16 : Int) * (k : Int) < (m : Int)) = false := decide_eq_false (by have := HN.out; omega)
      go_wp2_with fail
      go_ret
      exact ⟨rfl, rfl⟩
set_option maxRecDepth 100000 in
theorem counter_nokey (key fixed : ByteArray) (n : Int) (_hm : key.size ≤ 1000000) (hk : ¬ keyOk key) : Ret 50 #[.string key, .string fixed, .int .i64 n] (.tuple #[.string ⟨#[]⟩, .int .i64 2]) := by
  intro w
  unfold keyOk at hk
  have a1 : ((key.size : Int) != 16) = true := by rw [bne_iff_ne]; omega
  have a2 : ((key.size : Int) != 24) = true := by rw [bne_iff_ne]; omega
  have a3 : ((key.size : Int) != 32) = true := by rw [bne_iff_ne]; omega
  have b1 : ((key.size : Int) == 16) = false := by rw [beq_eq_false_iff_ne]; omega
  have b2 : ((key.size : Int) == 24) = false := by rw [beq_eq_false_iff_ne]; omega
  have b3 : ((key.size : Int) == 32) = false := by rw [beq_eq_false_iff_ne]; omega
  clear hk
  go_enter Try.func50, Try.ntmps50
  go_wp2_with fail
  go_ret2
  exact ⟨rfl, rfl⟩
set_option maxRecDepth 100000 in
theorem counter_nosize (key fixed : ByteArray) (n : Int) (hk : keyOk key) (hn : n < 1 ∨ 4080 < n) : Ret 50 #[.string key, .string fixed, .int .i64 n] (.tuple #[.string ⟨#[]⟩, .int .i64 4]) := by
  intro w
  have c2 := rounds_no n hn
  unfold keyOk at hk
  clear hn
  rcases hk with hk | hk | hk
  all_goals
    have hki : (key.size : Int) = _ := congrArg (fun n : Nat => (n : Int)) hk
    clear hk
    go_enter Try.func50, Try.ntmps50
    go_wp2_with fail
    refine (c2).calls ?_
    go_wp2_with fail
    go_ret2
    exact ⟨rfl, rfl⟩
set_option maxRecDepth 100000 in
set_option maxHeartbeats 4000000 in
theorem counter_yes (key fixed : ByteArray) (m : Nat) (hk : keyOk key) (h1 : 1 ≤ m) (h2 : m ≤ 4080) (hf : fixed.size ≤ 100000) (X : ByteArray) (hX : X = cntK key fixed (m : Int)) : Mak 50 #[.string key, .string fixed, .int .i64 (m : Int)] (.tuple #[.string X, .int .i64 0]) := by
  intro w
  have H0 := Lib.hid (Since.refl w)
  obtain ⟨n, hn⟩ : ∃ n, n = (m - 1) / 16 + 1 := ⟨_, rfl⟩
  have c2 := rounds_yes m n h1 h2 hn
  have tn : ((n : Int) == 0) = false := by rw [beq_eq_false_iff_ne]; omega
  have hn255 : n ≤ 255 := by omega
  have HN := Lib.hid hn
  have HX : Hid (X = bs ((outL key fixed n).take m)) := Lib.hid (by rw [hX, cntK, rndN, if_neg (by omega), hn]; rfl)
  have HK := Lib.hid hk
  unfold keyOk at hk
  have hk3 : (decide (key.size = 16) || decide (key.size = 24) || decide (key.size = 32)) = true := by simpa [or_assoc] using hk
  clear hX hn hk3
  rcases hk with hk | hk | hk
  · have a1 : ((key.size : Int) != 16) = false := by rw [bne_eq_false_iff_eq]; omega
    clear hk
    go_enter Try.func50, Try.ntmps50
    go_wp2_with fail
    refine (c2).calls ?_
    go_wp2_with fail
    go_loopw [8, 9] (fun o i wr => ∃ (j : Nat) (O : ByteArray), 1 ≤ j ∧ j ≤ n + 1 ∧ i = .int .i64 (j : Int) ∧ o = .string O ∧ Hid (O = bs (outL key fixed (j - 1))) ∧ Hid (Since w wr)) (fun _ i _ => n + 1 - (intOf i).toNat)
    case atStart => exact ⟨1, ⟨#[]⟩, by omega, by omega, rfl, rfl, Lib.hid rfl, H0⟩
    case round =>
      obtain ⟨j, O, hj1, hj2, rfl, rfl, HO, HS⟩ := hrel
      have hOs : O.size = 16 * (j - 1) := by rw [HO.out, size_bs, outL_len]
      by_cases hlt : j ≤ n
      · have hd : decide ((j : Int) ≤ (n : Int)) = true := decide_eq_true (by omega)
        obtain ⟨k, hk⟩ : ∃ k, j = k + 1 := ⟨j - 1, by omega⟩
        have e1 : IntKind.u8.wrap (j : Int) = (j : Int) := IntWalk.u8_in _ (by omega)
        obtain ⟨p, hp⟩ : ∃ p, p = bs [UInt8.ofNat j] := ⟨_, rfl⟩
        have K1 := RefRnd.conv_any (j : Int) p (by rw [hp]; exact RefRnd.one_num j)
        have hps : p.size = 1 := by rw [hp]; rfl
        have hsz1 : ¬ 9223372036854775807 < p.size + fixed.size := by omega
        obtain ⟨J, hJ⟩ : ∃ J, J = p ++ fixed := ⟨_, rfl⟩
        have hJt : J = tgT fixed k := by
          rw [hJ, hp, tgT, ← hk]
          apply ba_ext
          rw [app_list, list_bs, list_bs]; rfl
        have hJs : J.size = fixed.size + 1 := by rw [hJt, tgT, size_bs, List.length_cons]; rfl
        obtain ⟨T, hT⟩ : ∃ T, T = tg key fixed k := ⟨_, rfl⟩
        have hTs : T.size = 16 := by rw [hT]; exact tagK_size _ _
        have c4 := RefCmac.tag_yes key J HK.out (by omega) T (by rw [hT, tg, hJt])
        have hsz2 : ¬ 9223372036854775807 < O.size + T.size := by omega
        have hO2 : O ++ T = bs (outL key fixed (j + 1 - 1)) := by
          apply ba_ext
          rw [app_list, HO.out, list_bs, list_bs, show j + 1 - 1 = (j - 1) + 1 from by omega, outL_succ, hT, show j - 1 = k from by omega]
        clear hp hps hJt hJs hT hTs hk hOs
        have HO2 := Lib.hid hO2
        clear hO2
        have HJ := Lib.hid hJ
        clear hJ
        go_wp2_with fail
        refine (c2).calls ?_
        go_wp2_with fail
        rw [← HJ.out]
        have HS0 : Hid (Since w (wr.alloc (.cells #[.int .u8 (j : Int)] 5))) := Lib.hid (Since.alloc HS.out _)
        refine c4.calls HS0.out ?_
        intro w1 h1
        have H1 := Lib.hid h1
        clear h1
        go_wp2_with fail
        go_roundw
        case rel => exact ⟨j + 1, _, by omega, by omega, by go_num, rfl, HO2, H1⟩
        case measure => simp [intOf]; omega
      · have hd : decide ((j : Int) ≤ (n : Int)) = false := decide_eq_false (by omega)
        have hjn : j - 1 = n := by omega
        have hX2 : O.extract 0 m = X := by
          apply ba_ext
          rw [ext_list, HO.out, list_bs, HX.out, list_bs, hjn, List.drop_zero, Nat.sub_zero]
        have i1 : (m : Int) ≤ (O.size : Int) := by have := HN.out; omega
        clear hjn hOs
        have HX2 := Lib.hid hX2
        clear hX2
        go_wp2_with fail
        refine (c2).calls ?_
        go_wp2_with fail
        go_ret2
        exact ⟨by rw [← HX2.out]; rfl, HS.out⟩
  · have a1 : ((key.size : Int) != 16) = true := by rw [bne_iff_ne]; omega
    have a2 : ((key.size : Int) != 24) = false := by rw [bne_eq_false_iff_eq]; omega
    have b1 : ((key.size : Int) == 16) = false := by rw [beq_eq_false_iff_ne]; omega
    have b2 : ((key.size : Int) == 24) = true := by rw [beq_iff_eq]; omega
    clear hk
    go_enter Try.func50, Try.ntmps50
    go_wp2_with fail
    refine (c2).calls ?_
    go_wp2_with fail
    go_loopw [8, 9] (fun o i wr => ∃ (j : Nat) (O : ByteArray), 1 ≤ j ∧ j ≤ n + 1 ∧ i = .int .i64 (j : Int) ∧ o = .string O ∧ Hid (O = bs (outL key fixed (j - 1))) ∧ Hid (Since w wr)) (fun _ i _ => n + 1 - (intOf i).toNat)
    case atStart => exact ⟨1, ⟨#[]⟩, by omega, by omega, rfl, rfl, Lib.hid rfl, H0⟩
    case round =>
      obtain ⟨j, O, hj1, hj2, rfl, rfl, HO, HS⟩ := hrel
      have hOs : O.size = 16 * (j - 1) := by rw [HO.out, size_bs, outL_len]
      by_cases hlt : j ≤ n
      · have hd : decide ((j : Int) ≤ (n : Int)) = true := decide_eq_true (by omega)
        obtain ⟨k, hk⟩ : ∃ k, j = k + 1 := ⟨j - 1, by omega⟩
        have e1 : IntKind.u8.wrap (j : Int) = (j : Int) := IntWalk.u8_in _ (by omega)
        obtain ⟨p, hp⟩ : ∃ p, p = bs [UInt8.ofNat j] := ⟨_, rfl⟩
        have K1 := RefRnd.conv_any (j : Int) p (by rw [hp]; exact RefRnd.one_num j)
        have hps : p.size = 1 := by rw [hp]; rfl
        have hsz1 : ¬ 9223372036854775807 < p.size + fixed.size := by omega
        obtain ⟨J, hJ⟩ : ∃ J, J = p ++ fixed := ⟨_, rfl⟩
        have hJt : J = tgT fixed k := by
          rw [hJ, hp, tgT, ← hk]
          apply ba_ext
          rw [app_list, list_bs, list_bs]; rfl
        have hJs : J.size = fixed.size + 1 := by rw [hJt, tgT, size_bs, List.length_cons]; rfl
        obtain ⟨T, hT⟩ : ∃ T, T = tg key fixed k := ⟨_, rfl⟩
        have hTs : T.size = 16 := by rw [hT]; exact tagK_size _ _
        have c4 := RefCmac.tag_yes key J HK.out (by omega) T (by rw [hT, tg, hJt])
        have hsz2 : ¬ 9223372036854775807 < O.size + T.size := by omega
        have hO2 : O ++ T = bs (outL key fixed (j + 1 - 1)) := by
          apply ba_ext
          rw [app_list, HO.out, list_bs, list_bs, show j + 1 - 1 = (j - 1) + 1 from by omega, outL_succ, hT, show j - 1 = k from by omega]
        clear hp hps hJt hJs hT hTs hk hOs
        have HO2 := Lib.hid hO2
        clear hO2
        have HJ := Lib.hid hJ
        clear hJ
        go_wp2_with fail
        refine (c2).calls ?_
        go_wp2_with fail
        rw [← HJ.out]
        have HS0 : Hid (Since w (wr.alloc (.cells #[.int .u8 (j : Int)] 5))) := Lib.hid (Since.alloc HS.out _)
        refine c4.calls HS0.out ?_
        intro w1 h1
        have H1 := Lib.hid h1
        clear h1
        go_wp2_with fail
        go_roundw
        case rel => exact ⟨j + 1, _, by omega, by omega, by go_num, rfl, HO2, H1⟩
        case measure => simp [intOf]; omega
      · have hd : decide ((j : Int) ≤ (n : Int)) = false := decide_eq_false (by omega)
        have hjn : j - 1 = n := by omega
        have hX2 : O.extract 0 m = X := by
          apply ba_ext
          rw [ext_list, HO.out, list_bs, HX.out, list_bs, hjn, List.drop_zero, Nat.sub_zero]
        have i1 : (m : Int) ≤ (O.size : Int) := by have := HN.out; omega
        clear hjn hOs
        have HX2 := Lib.hid hX2
        clear hX2
        go_wp2_with fail
        refine (c2).calls ?_
        go_wp2_with fail
        go_ret2
        exact ⟨by rw [← HX2.out]; rfl, HS.out⟩
  · have a1 : ((key.size : Int) != 16) = true := by rw [bne_iff_ne]; omega
    have a2 : ((key.size : Int) != 24) = true := by rw [bne_iff_ne]; omega
    have a3 : ((key.size : Int) != 32) = false := by rw [bne_eq_false_iff_eq]; omega
    have b1 : ((key.size : Int) == 16) = false := by rw [beq_eq_false_iff_ne]; omega
    have b2 : ((key.size : Int) == 24) = false := by rw [beq_eq_false_iff_ne]; omega
    have b3 : ((key.size : Int) == 32) = true := by rw [beq_iff_eq]; omega
    clear hk
    go_enter Try.func50, Try.ntmps50
    go_wp2_with fail
    refine (c2).calls ?_
    go_wp2_with fail
    go_loopw [8, 9] (fun o i wr => ∃ (j : Nat) (O : ByteArray), 1 ≤ j ∧ j ≤ n + 1 ∧ i = .int .i64 (j : Int) ∧ o = .string O ∧ Hid (O = bs (outL key fixed (j - 1))) ∧ Hid (Since w wr)) (fun _ i _ => n + 1 - (intOf i).toNat)
    case atStart => exact ⟨1, ⟨#[]⟩, by omega, by omega, rfl, rfl, Lib.hid rfl, H0⟩
    case round =>
      obtain ⟨j, O, hj1, hj2, rfl, rfl, HO, HS⟩ := hrel
      have hOs : O.size = 16 * (j - 1) := by rw [HO.out, size_bs, outL_len]
      by_cases hlt : j ≤ n
      · have hd : decide ((j : Int) ≤ (n : Int)) = true := decide_eq_true (by omega)
        obtain ⟨k, hk⟩ : ∃ k, j = k + 1 := ⟨j - 1, by omega⟩
        have e1 : IntKind.u8.wrap (j : Int) = (j : Int) := IntWalk.u8_in _ (by omega)
        obtain ⟨p, hp⟩ : ∃ p, p = bs [UInt8.ofNat j] := ⟨_, rfl⟩
        have K1 := RefRnd.conv_any (j : Int) p (by rw [hp]; exact RefRnd.one_num j)
        have hps : p.size = 1 := by rw [hp]; rfl
        have hsz1 : ¬ 9223372036854775807 < p.size + fixed.size := by omega
        obtain ⟨J, hJ⟩ : ∃ J, J = p ++ fixed := ⟨_, rfl⟩
        have hJt : J = tgT fixed k := by
          rw [hJ, hp, tgT, ← hk]
          apply ba_ext
          rw [app_list, list_bs, list_bs]; rfl
        have hJs : J.size = fixed.size + 1 := by rw [hJt, tgT, size_bs, List.length_cons]; rfl
        obtain ⟨T, hT⟩ : ∃ T, T = tg key fixed k := ⟨_, rfl⟩
        have hTs : T.size = 16 := by rw [hT]; exact tagK_size _ _
        have c4 := RefCmac.tag_yes key J HK.out (by omega) T (by rw [hT, tg, hJt])
        have hsz2 : ¬ 9223372036854775807 < O.size + T.size := by omega
        have hO2 : O ++ T = bs (outL key fixed (j + 1 - 1)) := by
          apply ba_ext
          rw [app_list, HO.out, list_bs, list_bs, show j + 1 - 1 = (j - 1) + 1 from by omega, outL_succ, hT, show j - 1 = k from by omega]
        clear hp hps hJt hJs hT hTs hk hOs
        have HO2 := Lib.hid hO2
        clear hO2
        have HJ := Lib.hid hJ
        clear hJ
        go_wp2_with fail
        refine (c2).calls ?_
        go_wp2_with fail
        rw [← HJ.out]
        have HS0 : Hid (Since w (wr.alloc (.cells #[.int .u8 (j : Int)] 5))) := Lib.hid (Since.alloc HS.out _)
        refine c4.calls HS0.out ?_
        intro w1 h1
        have H1 := Lib.hid h1
        clear h1
        go_wp2_with fail
        go_roundw
        case rel => exact ⟨j + 1, _, by omega, by omega, by go_num, rfl, HO2, H1⟩
        case measure => simp [intOf]; omega
      · have hd : decide ((j : Int) ≤ (n : Int)) = false := decide_eq_false (by omega)
        have hjn : j - 1 = n := by omega
        have hX2 : O.extract 0 m = X := by
          apply ba_ext
          rw [ext_list, HO.out, list_bs, HX.out, list_bs, hjn, List.drop_zero, Nat.sub_zero]
        have i1 : (m : Int) ≤ (O.size : Int) := by have := HN.out; omega
        clear hjn hOs
        have HX2 := Lib.hid hX2
        clear hX2
        go_wp2_with fail
        refine (c2).calls ?_
        go_wp2_with fail
        go_ret2
        exact ⟨by rw [← HX2.out]; rfl, HS.out⟩
end RefKdf
end Go.Proofs.Ytgbfdgopinnlbaa

/- What the law calls awake, for layer 12. -/
namespace Go.Proofs.Ytgbfdgopinnlbaa
open Go.RowKit
namespace Kdf
open Rnd Aes Cmac
def kKey : ByteArray := ⟨#[48, 49, 50, 51, 52, 53, 54, 55, 56, 57, 97, 98, 99, 100, 101, 102]⟩
def kX : ByteArray := ⟨#[120]⟩
theorem cnt16 (key fixed : ByteArray) : cntK key fixed 16 = tg key fixed 0 := by
  have h : rndN 16 = 1 := rfl
  unfold cntK
  rw [h, outL_succ]
  have h9 : (tg key fixed 0).data.toList.length = 16 := tagK_size _ _
  show bs (List.take 16 ([] ++ (tg key fixed 0).data.toList)) = _
  rw [List.nil_append, List.take_of_length_le (by omega)]
  exact bs_list _
end Kdf
end Go.Proofs.Ytgbfdgopinnlbaa

/- Package derive: plain mathematics; Input where there is none. -/
namespace Go.Proofs.Ytgbfdgopinnlbaa
open Go.RowKit
namespace Der
open Rnd Aes Cmac Kdf

/-- the text for a purpose, of n bytes -/
def inpS (p n : Nat) : ByteArray := ⟨#[0, UInt8.ofNat p, 0, 0, UInt8.ofNat (n / 8), UInt8.ofNat (8 * n / 256), UInt8.ofNat (8 * n % 256)]⟩
theorem inpS_size (p n : Nat) : (inpS p n).size = 7 := rfl
/-- the key for a purpose -/
def derK (key : ByteArray) (p : Nat) : ByteArray := cntK key (inpS p key.size) (key.size : Int)
theorem derK_size (key : ByteArray) (hk : keyOk key) (p : Nat) : (derK key p).size = key.size := by
  unfold derK cntK keyOk at *
  rw [size_bs, List.length_take, outL_len, Int.toNat_natCast]
  unfold rndN
  rw [if_neg (by omega), Int.toNat_natCast]
  omega
theorem derK_ok (key : ByteArray) (hk : keyOk key) (p : Nat) : keyOk (derK key p) := by
  have h := derK_size key hk p
  unfold keyOk at *
  rw [h]; exact hk
theorem rounds_key (key : ByteArray) (hk : keyOk key) : ∃ x : Int, (x == 0) = false ∧ Ret 51 #[.int .i64 (key.size : Int)] (.int .i64 x) := by
  unfold keyOk at hk
  exact ⟨((key.size / 4 + 6 : Nat) : Int), by rw [beq_eq_false_iff_ne]; omega, Sched.rounds_yes key.size hk _ rfl⟩
theorem rounds_nokey (key : ByteArray) (hk : ¬ keyOk key) : Ret 51 #[.int .i64 (key.size : Int)] (.int .i64 0) := by
  unfold keyOk at hk
  exact Sched.rounds_no _ (by omega)
set_option maxRecDepth 100000 in
theorem input_arg (p n : Int) (h : p < 0 ∨ 1 < p) : Ret 30 #[.int .i64 p, .int .i64 n] (.string ⟨#[]⟩) := by
  intro w
  by_cases h1 : p < 0
  · have t1 : decide (p < 0) = true := decide_eq_true h1
    clear h
    go_enter Try.func30, Try.ntmps30
    go_wp2_with fail
    go_ret
    exact ⟨rfl, rfl⟩
  · have t1 : decide (p < 0) = false := decide_eq_false h1
    have t2 : decide ((1 : Int) < p) = true := decide_eq_true (by omega)
    clear h
    go_enter Try.func30, Try.ntmps30
    go_wp2_with fail
    go_ret
    exact ⟨rfl, rfl⟩
set_option maxRecDepth 100000 in
theorem input_len (p n : Int) (h1 : 0 ≤ p) (h2 : p ≤ 1) (h : n ≠ 16 ∧ n ≠ 24 ∧ n ≠ 32) : Ret 30 #[.int .i64 p, .int .i64 n] (.string ⟨#[]⟩) := by
  intro w
  have t1 : decide (p < 0) = false := decide_eq_false (by omega)
  have t2 : decide ((1 : Int) < p) = false := decide_eq_false (by omega)
  have c1 := Sched.rounds_no n h
  clear h h1 h2
  go_enter Try.func30, Try.ntmps30
  go_wp2_with fail
  refine (c1).calls ?_
  go_wp2_with fail
  go_ret
  exact ⟨rfl, rfl⟩
end Der
end Go.Proofs.Ytgbfdgopinnlbaa

/- Package derive: Input. -/
namespace Go.Proofs.Ytgbfdgopinnlbaa
open Go.RowKit
namespace Der
open Rnd Aes Cmac Kdf

theorem put2_lit (m : Nat) (hm : m < 65536) : strOfNums (Oct.putL (m : Int) 2) = ⟨#[UInt8.ofNat (m / 256), UInt8.ofNat (m % 256)]⟩ := by
  have h1 : ((m : Int) / 256 % 256).toNat = m / 256 := by omega
  have h2 : ((m : Int) % 256).toNat = m % 256 := by omega
  apply ba_ext
  rw [nums_list]
  show [UInt8.ofNat ((m : Int) / 2 ^ 8 % 256).toNat, UInt8.ofNat ((m : Int) / 2 ^ 0 % 256).toNat] = _
  rw [show ((2 : Int) ^ 8) = 256 from rfl, show ((2 : Int) ^ 0) = 1 from rfl, Int.ediv_one, h1, h2]
theorem putp (m : Nat) (hm : m < 65536) (X : ByteArray) (hX : X = ⟨#[UInt8.ofNat (m / 256), UInt8.ofNat (m % 256)]⟩) : Mak 53 #[.int .u64 (m : Int), .int .i64 2] (.string X) := fun w => by
  rw [hX, ← put2_lit m hm]
  exact Oct.put_mid (m : Int) 2 w (by omega) (by omega) (by decide) (by decide)
set_option maxRecDepth 100000 in
theorem sl7 (b k : Nat) (hk : k = 0 ∨ k = 3 ∨ k = 5) (w : World) : (Instr.sliceAt 59 (.pointer (some ⟨b, 0, none⟩)) (some (.int .i64 (k : Int))) none none).run Try.prog w = .ok (.slice (some ⟨b, k, none⟩) (7 - k) (7 - k)) w := by
  rcases hk with rfl | rfl | rfl <;> kernel_rfl
set_option maxRecDepth 100000 in
theorem sl7a (b : Nat) (w : World) : (Instr.sliceAt 59 (.pointer (some ⟨b, 0, none⟩)) none none none).run Try.prog w = .ok (.slice (some ⟨b, 0, none⟩) 7 7) w := by kernel_rfl
def row7 (A B C : ByteArray) : Nat → Value := putAt (putAt (putAt (fun _ => .int .u8 0) 0 A.data.toList) 3 B.data.toList) 5 C.data.toList
theorem row_since {w w' : World} {b t n : Nat} {f : Nat → Value} (h : w.rowIs b t n f) (hs : Below w.heap.size w w') : w'.rowIs b t n f := h.of_block (hs.block b h.lt)

set_option maxRecDepth 100000 in
set_option maxHeartbeats 400000 in
theorem input_16 (p x : Int) (A B C X : ByteArray) (hA : A.size = 2) (hB : B.size = 2) (hC : C.size = 2) (t1 : decide (p < 0) = false) (t2 : decide ((1 : Int) < p) = false) (hx : (x == 0) = false)
    (c0 : Ret 51 #[.int .i64 16] (.int .i64 x)) (e1 : IntKind.u64.wrap p = p)
    (c1 : Mak 53 #[.int .u64 p, .int .i64 2] (.string A)) (c2 : Mak 53 #[.int .u64 2, .int .i64 2] (.string B)) (c3 : Mak 53 #[.int .u64 128, .int .i64 2] (.string C))
    (xs : List Int) (hl : xs.length = 7) (hcl : ∀ i, i < 7 → row7 A B C i = .int .u8 (xs.getD i 0)) (hX : X = strOfNums xs) :
    Mak 30 #[.int .i64 p, .int .i64 16] (.string X) := by
  intro w
  obtain ⟨W, hW⟩ : ∃ W, W = w.alloc (.cells #[.int .u8 0, .int .u8 0, .int .u8 0, .int .u8 0, .int .u8 0, .int .u8 0, .int .u8 0] 59) := ⟨_, rfl⟩
  have hs0 : Since w W := by rw [hW]; exact (Since.refl w).alloc _
  have hr0 : W.rowIs w.heap.size 59 7 (fun _ => .int .u8 0) := by
    rw [hW]
    exact World.rowIs_alloc w _ _ (fun _ => .int .u8 0) (fun i hi => by
      match i, hi with
      | 0, _ | 1, _ | 2, _ | 3, _ | 4, _ | 5, _ | 6, _ => rfl
      | n + 7, hi => simp at hi; omega)
  have HR0 := Lib.hid hr0
  have HS := Lib.hid hs0
  have s0 : ∀ W, (Instr.sliceAt 59 (.pointer (some ⟨w.heap.size, 0, none⟩)) (some (.int .i64 0)) none none).run Try.prog W = .ok (.slice (some ⟨w.heap.size, 0, none⟩) 7 7) W := sl7 w.heap.size 0 (by decide)
  have s3 : ∀ W, (Instr.sliceAt 59 (.pointer (some ⟨w.heap.size, 0, none⟩)) (some (.int .i64 3)) none none).run Try.prog W = .ok (.slice (some ⟨w.heap.size, 3, none⟩) 4 4) W := sl7 w.heap.size 3 (by decide)
  have s5 : ∀ W, (Instr.sliceAt 59 (.pointer (some ⟨w.heap.size, 0, none⟩)) (some (.int .i64 5)) none none).run Try.prog W = .ok (.slice (some ⟨w.heap.size, 5, none⟩) 2 2) W := sl7 w.heap.size 5 (by decide)
  have sa := sl7a w.heap.size
  have HX := Lib.hid hX
  have HL := Lib.hid hl
  have HC := Lib.hid hcl
  have HAs := Lib.hid hA
  have HBs := Lib.hid hB
  have HCs := Lib.hid hC
  clear hs0 hr0 hX hl hcl
  go_enter Try.func30, Try.ntmps30
  go_wp2_with fail
  refine (c0).calls ?_
  go_wp2_with fail
  rw [← hW]
  clear hW
  go_region_law (first
    | (go_simp; go_at_call 53; refine (c1 _).mono ?_; rintro e w1 ⟨rfl, hc⟩; have hr := row_since HR0.out.drew hc; have hs := (Since.drew HS.out).step hc; obtain ⟨w2, hrun, hrow, hbel⟩ := run_copy_str w1 A w.heap.size 59 0 7 7 7 3 _ (some ⟨w.heap.size, 0, none⟩) hr (fun _ => rfl) (by have := HAs.out; omega) (by have := HAs.out; omega)))
  have HR1 := Lib.hid hrow
  replace HS := Lib.hid (hbel w.heap.size w hs (Nat.le_refl _))
  clear hc hr hs hrow hbel hrun
  go_wp2_with fail
  go_region_law (first
    | (go_simp; go_at_call 53; refine (c2 _).mono ?_; rintro e w3 ⟨rfl, hc⟩; have hr := row_since HR1.out.drew hc; have hs := (Since.drew HS.out).step hc; obtain ⟨w4, hrun, hrow, hbel⟩ := run_copy_str w3 B w.heap.size 59 3 7 4 4 3 _ (some ⟨w.heap.size, 3, none⟩) hr (fun _ => rfl) (by have := HBs.out; omega) (by have := HBs.out; omega)))
  have HR2 := Lib.hid hrow
  replace HS := Lib.hid (hbel w.heap.size w hs (Nat.le_refl _))
  clear hc hr hs hrow hbel hrun
  go_wp2_with fail
  go_region_law (first
    | (go_simp; go_at_call 53; refine (c3 _).mono ?_; rintro e w5 ⟨rfl, hc⟩; have hr := row_since HR2.out.drew hc; have hs := (Since.drew HS.out).step hc; obtain ⟨w6, hrun, hrow, hbel⟩ := run_copy_str w5 C w.heap.size 59 5 7 2 2 3 _ (some ⟨w.heap.size, 5, none⟩) hr (fun _ => rfl) (by have := HCs.out; omega) (by have := HCs.out; omega)))
  have HR3 := Lib.hid hrow
  replace HS := Lib.hid (hbel w.heap.size w hs (Nat.le_refl _))
  clear hc hr hs hrow hbel hrun
  go_wp2_with fail
  have g := run_convert_bytes_arg (P := Try.prog) w6 60 5 Try.underlying60 Try.underlying5 w.heap.size 0 7 7 xs HL.out (fun i hi => by
    rw [Nat.zero_add, HR3.out.cell hi, ← HC.out i hi]; rfl) 9 Try.underlying9
  rw [← HX.out] at g
  go_wp2_with fail
  rw [g]
  go_simp
  go_wp2_with fail
  go_ret
  exact ⟨rfl, HS.out⟩
set_option maxRecDepth 100000 in
set_option maxHeartbeats 400000 in
theorem input_24 (p x : Int) (A B C X : ByteArray) (hA : A.size = 2) (hB : B.size = 2) (hC : C.size = 2) (t1 : decide (p < 0) = false) (t2 : decide ((1 : Int) < p) = false) (hx : (x == 0) = false)
    (c0 : Ret 51 #[.int .i64 24] (.int .i64 x)) (e1 : IntKind.u64.wrap p = p)
    (c1 : Mak 53 #[.int .u64 p, .int .i64 2] (.string A)) (c2 : Mak 53 #[.int .u64 3, .int .i64 2] (.string B)) (c3 : Mak 53 #[.int .u64 192, .int .i64 2] (.string C))
    (xs : List Int) (hl : xs.length = 7) (hcl : ∀ i, i < 7 → row7 A B C i = .int .u8 (xs.getD i 0)) (hX : X = strOfNums xs) :
    Mak 30 #[.int .i64 p, .int .i64 24] (.string X) := by
  intro w
  obtain ⟨W, hW⟩ : ∃ W, W = w.alloc (.cells #[.int .u8 0, .int .u8 0, .int .u8 0, .int .u8 0, .int .u8 0, .int .u8 0, .int .u8 0] 59) := ⟨_, rfl⟩
  have hs0 : Since w W := by rw [hW]; exact (Since.refl w).alloc _
  have hr0 : W.rowIs w.heap.size 59 7 (fun _ => .int .u8 0) := by
    rw [hW]
    exact World.rowIs_alloc w _ _ (fun _ => .int .u8 0) (fun i hi => by
      match i, hi with
      | 0, _ | 1, _ | 2, _ | 3, _ | 4, _ | 5, _ | 6, _ => rfl
      | n + 7, hi => simp at hi; omega)
  have HR0 := Lib.hid hr0
  have HS := Lib.hid hs0
  have s0 : ∀ W, (Instr.sliceAt 59 (.pointer (some ⟨w.heap.size, 0, none⟩)) (some (.int .i64 0)) none none).run Try.prog W = .ok (.slice (some ⟨w.heap.size, 0, none⟩) 7 7) W := sl7 w.heap.size 0 (by decide)
  have s3 : ∀ W, (Instr.sliceAt 59 (.pointer (some ⟨w.heap.size, 0, none⟩)) (some (.int .i64 3)) none none).run Try.prog W = .ok (.slice (some ⟨w.heap.size, 3, none⟩) 4 4) W := sl7 w.heap.size 3 (by decide)
  have s5 : ∀ W, (Instr.sliceAt 59 (.pointer (some ⟨w.heap.size, 0, none⟩)) (some (.int .i64 5)) none none).run Try.prog W = .ok (.slice (some ⟨w.heap.size, 5, none⟩) 2 2) W := sl7 w.heap.size 5 (by decide)
  have sa := sl7a w.heap.size
  have HX := Lib.hid hX
  have HL := Lib.hid hl
  have HC := Lib.hid hcl
  have HAs := Lib.hid hA
  have HBs := Lib.hid hB
  have HCs := Lib.hid hC
  clear hs0 hr0 hX hl hcl
  go_enter Try.func30, Try.ntmps30
  go_wp2_with fail
  refine (c0).calls ?_
  go_wp2_with fail
  rw [← hW]
  clear hW
  go_region_law (first
    | (go_simp; go_at_call 53; refine (c1 _).mono ?_; rintro e w1 ⟨rfl, hc⟩; have hr := row_since HR0.out.drew hc; have hs := (Since.drew HS.out).step hc; obtain ⟨w2, hrun, hrow, hbel⟩ := run_copy_str w1 A w.heap.size 59 0 7 7 7 3 _ (some ⟨w.heap.size, 0, none⟩) hr (fun _ => rfl) (by have := HAs.out; omega) (by have := HAs.out; omega)))
  have HR1 := Lib.hid hrow
  replace HS := Lib.hid (hbel w.heap.size w hs (Nat.le_refl _))
  clear hc hr hs hrow hbel hrun
  go_wp2_with fail
  go_region_law (first
    | (go_simp; go_at_call 53; refine (c2 _).mono ?_; rintro e w3 ⟨rfl, hc⟩; have hr := row_since HR1.out.drew hc; have hs := (Since.drew HS.out).step hc; obtain ⟨w4, hrun, hrow, hbel⟩ := run_copy_str w3 B w.heap.size 59 3 7 4 4 3 _ (some ⟨w.heap.size, 3, none⟩) hr (fun _ => rfl) (by have := HBs.out; omega) (by have := HBs.out; omega)))
  have HR2 := Lib.hid hrow
  replace HS := Lib.hid (hbel w.heap.size w hs (Nat.le_refl _))
  clear hc hr hs hrow hbel hrun
  go_wp2_with fail
  go_region_law (first
    | (go_simp; go_at_call 53; refine (c3 _).mono ?_; rintro e w5 ⟨rfl, hc⟩; have hr := row_since HR2.out.drew hc; have hs := (Since.drew HS.out).step hc; obtain ⟨w6, hrun, hrow, hbel⟩ := run_copy_str w5 C w.heap.size 59 5 7 2 2 3 _ (some ⟨w.heap.size, 5, none⟩) hr (fun _ => rfl) (by have := HCs.out; omega) (by have := HCs.out; omega)))
  have HR3 := Lib.hid hrow
  replace HS := Lib.hid (hbel w.heap.size w hs (Nat.le_refl _))
  clear hc hr hs hrow hbel hrun
  go_wp2_with fail
  have g := run_convert_bytes_arg (P := Try.prog) w6 60 5 Try.underlying60 Try.underlying5 w.heap.size 0 7 7 xs HL.out (fun i hi => by
    rw [Nat.zero_add, HR3.out.cell hi, ← HC.out i hi]; rfl) 9 Try.underlying9
  rw [← HX.out] at g
  go_wp2_with fail
  rw [g]
  go_simp
  go_wp2_with fail
  go_ret
  exact ⟨rfl, HS.out⟩
set_option maxRecDepth 100000 in
set_option maxHeartbeats 400000 in
theorem input_32 (p x : Int) (A B C X : ByteArray) (hA : A.size = 2) (hB : B.size = 2) (hC : C.size = 2) (t1 : decide (p < 0) = false) (t2 : decide ((1 : Int) < p) = false) (hx : (x == 0) = false)
    (c0 : Ret 51 #[.int .i64 32] (.int .i64 x)) (e1 : IntKind.u64.wrap p = p)
    (c1 : Mak 53 #[.int .u64 p, .int .i64 2] (.string A)) (c2 : Mak 53 #[.int .u64 4, .int .i64 2] (.string B)) (c3 : Mak 53 #[.int .u64 256, .int .i64 2] (.string C))
    (xs : List Int) (hl : xs.length = 7) (hcl : ∀ i, i < 7 → row7 A B C i = .int .u8 (xs.getD i 0)) (hX : X = strOfNums xs) :
    Mak 30 #[.int .i64 p, .int .i64 32] (.string X) := by
  intro w
  obtain ⟨W, hW⟩ : ∃ W, W = w.alloc (.cells #[.int .u8 0, .int .u8 0, .int .u8 0, .int .u8 0, .int .u8 0, .int .u8 0, .int .u8 0] 59) := ⟨_, rfl⟩
  have hs0 : Since w W := by rw [hW]; exact (Since.refl w).alloc _
  have hr0 : W.rowIs w.heap.size 59 7 (fun _ => .int .u8 0) := by
    rw [hW]
    exact World.rowIs_alloc w _ _ (fun _ => .int .u8 0) (fun i hi => by
      match i, hi with
      | 0, _ | 1, _ | 2, _ | 3, _ | 4, _ | 5, _ | 6, _ => rfl
      | n + 7, hi => simp at hi; omega)
  have HR0 := Lib.hid hr0
  have HS := Lib.hid hs0
  have s0 : ∀ W, (Instr.sliceAt 59 (.pointer (some ⟨w.heap.size, 0, none⟩)) (some (.int .i64 0)) none none).run Try.prog W = .ok (.slice (some ⟨w.heap.size, 0, none⟩) 7 7) W := sl7 w.heap.size 0 (by decide)
  have s3 : ∀ W, (Instr.sliceAt 59 (.pointer (some ⟨w.heap.size, 0, none⟩)) (some (.int .i64 3)) none none).run Try.prog W = .ok (.slice (some ⟨w.heap.size, 3, none⟩) 4 4) W := sl7 w.heap.size 3 (by decide)
  have s5 : ∀ W, (Instr.sliceAt 59 (.pointer (some ⟨w.heap.size, 0, none⟩)) (some (.int .i64 5)) none none).run Try.prog W = .ok (.slice (some ⟨w.heap.size, 5, none⟩) 2 2) W := sl7 w.heap.size 5 (by decide)
  have sa := sl7a w.heap.size
  have HX := Lib.hid hX
  have HL := Lib.hid hl
  have HC := Lib.hid hcl
  have HAs := Lib.hid hA
  have HBs := Lib.hid hB
  have HCs := Lib.hid hC
  clear hs0 hr0 hX hl hcl
  go_enter Try.func30, Try.ntmps30
  go_wp2_with fail
  refine (c0).calls ?_
  go_wp2_with fail
  rw [← hW]
  clear hW
  go_region_law (first
    | (go_simp; go_at_call 53; refine (c1 _).mono ?_; rintro e w1 ⟨rfl, hc⟩; have hr := row_since HR0.out.drew hc; have hs := (Since.drew HS.out).step hc; obtain ⟨w2, hrun, hrow, hbel⟩ := run_copy_str w1 A w.heap.size 59 0 7 7 7 3 _ (some ⟨w.heap.size, 0, none⟩) hr (fun _ => rfl) (by have := HAs.out; omega) (by have := HAs.out; omega)))
  have HR1 := Lib.hid hrow
  replace HS := Lib.hid (hbel w.heap.size w hs (Nat.le_refl _))
  clear hc hr hs hrow hbel hrun
  go_wp2_with fail
  go_region_law (first
    | (go_simp; go_at_call 53; refine (c2 _).mono ?_; rintro e w3 ⟨rfl, hc⟩; have hr := row_since HR1.out.drew hc; have hs := (Since.drew HS.out).step hc; obtain ⟨w4, hrun, hrow, hbel⟩ := run_copy_str w3 B w.heap.size 59 3 7 4 4 3 _ (some ⟨w.heap.size, 3, none⟩) hr (fun _ => rfl) (by have := HBs.out; omega) (by have := HBs.out; omega)))
  have HR2 := Lib.hid hrow
  replace HS := Lib.hid (hbel w.heap.size w hs (Nat.le_refl _))
  clear hc hr hs hrow hbel hrun
  go_wp2_with fail
  go_region_law (first
    | (go_simp; go_at_call 53; refine (c3 _).mono ?_; rintro e w5 ⟨rfl, hc⟩; have hr := row_since HR2.out.drew hc; have hs := (Since.drew HS.out).step hc; obtain ⟨w6, hrun, hrow, hbel⟩ := run_copy_str w5 C w.heap.size 59 5 7 2 2 3 _ (some ⟨w.heap.size, 5, none⟩) hr (fun _ => rfl) (by have := HCs.out; omega) (by have := HCs.out; omega)))
  have HR3 := Lib.hid hrow
  replace HS := Lib.hid (hbel w.heap.size w hs (Nat.le_refl _))
  clear hc hr hs hrow hbel hrun
  go_wp2_with fail
  have g := run_convert_bytes_arg (P := Try.prog) w6 60 5 Try.underlying60 Try.underlying5 w.heap.size 0 7 7 xs HL.out (fun i hi => by
    rw [Nat.zero_add, HR3.out.cell hi, ← HC.out i hi]; rfl) 9 Try.underlying9
  rw [← HX.out] at g
  go_wp2_with fail
  rw [g]
  go_simp
  go_wp2_with fail
  go_ret
  exact ⟨rfl, HS.out⟩
theorem input_yes (p n : Nat) (hp : p ≤ 1) (hn : n = 16 ∨ n = 24 ∨ n = 32) (X : ByteArray) (hX : X = inpS p n) : Mak 30 #[.int .i64 (p : Int), .int .i64 (n : Int)] (.string X) := by
  have t1 : decide ((p : Int) < 0) = false := decide_eq_false (by omega)
  have t2 : decide ((1 : Int) < (p : Int)) = false := decide_eq_false (by omega)
  have e1 : IntKind.u64.wrap (p : Int) = (p : Int) := IntWalk.u64_in _ (by omega)
  obtain ⟨A, hA⟩ : ∃ A : ByteArray, A = ⟨#[0, UInt8.ofNat p]⟩ := ⟨_, rfl⟩
  have c1 := putp p (by omega) A (by rw [hA]; rcases (show p = 0 ∨ p = 1 by omega) with rfl | rfl <;> rfl)
  have hxx : (((n / 4 + 6 : Nat) : Int) == 0) = false := by rw [beq_eq_false_iff_ne]; omega
  have c0 := Sched.rounds_yes n hn _ rfl
  have hX2 : X = strOfNums [0, (p : Int), 0, 0, ((n / 8 : Nat) : Int), ((8 * n / 256 : Nat) : Int), ((8 * n % 256 : Nat) : Int)] := by
    rw [hX]
    rcases hn with rfl | rfl | rfl <;> rcases (show p = 0 ∨ p = 1 by omega) with rfl | rfl <;> rfl
  rcases hn with rfl | rfl | rfl
  · refine input_16 (p : Int) _ A ⟨#[0, 2]⟩ ⟨#[0, 128]⟩ X (by rw [hA]; rfl) rfl rfl t1 t2 hxx c0 e1 c1 (putp 2 (by decide) _ rfl) (putp 128 (by decide) _ rfl) _ rfl ?_ hX2
    rw [hA]
    intro i hi
    rcases (show p = 0 ∨ p = 1 by omega) with rfl | rfl <;> rcases (show i = 0 ∨ i = 1 ∨ i = 2 ∨ i = 3 ∨ i = 4 ∨ i = 5 ∨ i = 6 by omega) with rfl | rfl | rfl | rfl | rfl | rfl | rfl <;> rfl
  · refine input_24 (p : Int) _ A ⟨#[0, 3]⟩ ⟨#[0, 192]⟩ X (by rw [hA]; rfl) rfl rfl t1 t2 hxx c0 e1 c1 (putp 3 (by decide) _ rfl) (putp 192 (by decide) _ rfl) _ rfl ?_ hX2
    rw [hA]
    intro i hi
    rcases (show p = 0 ∨ p = 1 by omega) with rfl | rfl <;> rcases (show i = 0 ∨ i = 1 ∨ i = 2 ∨ i = 3 ∨ i = 4 ∨ i = 5 ∨ i = 6 by omega) with rfl | rfl | rfl | rfl | rfl | rfl | rfl <;> rfl
  · refine input_32 (p : Int) _ A ⟨#[0, 4]⟩ ⟨#[1, 0]⟩ X (by rw [hA]; rfl) rfl rfl t1 t2 hxx c0 e1 c1 (putp 4 (by decide) _ rfl) (putp 256 (by decide) _ rfl) _ rfl ?_ hX2
    rw [hA]
    intro i hi
    rcases (show p = 0 ∨ p = 1 by omega) with rfl | rfl <;> rcases (show i = 0 ∨ i = 1 ∨ i = 2 ∨ i = 3 ∨ i = 4 ∨ i = 5 ∨ i = 6 by omega) with rfl | rfl | rfl | rfl | rfl | rfl | rfl <;> rfl
end Der
end Go.Proofs.Ytgbfdgopinnlbaa

/- Package derive: Key, Keys. -/
namespace Go.Proofs.Ytgbfdgopinnlbaa
open Go.RowKit
namespace Der
open Rnd Aes Cmac Kdf

set_option maxRecDepth 100000 in
theorem key_nokey (key : ByteArray) (p : Int) (hk : ¬ keyOk key) : Ret 28 #[.string key, .int .i64 p] (.tuple #[.string ⟨#[]⟩, .int .i64 2]) := by
  intro w
  have c1 := rounds_nokey key hk
  clear hk
  go_enter Try.func28, Try.ntmps28
  go_wp2_with fail
  refine (c1).calls ?_
  go_wp2_with fail
  go_ret2
  exact ⟨rfl, rfl⟩
set_option maxRecDepth 100000 in
theorem key_noarg (key : ByteArray) (p : Int) (hk : keyOk key) (hp : p < 0 ∨ 1 < p) : Ret 28 #[.string key, .int .i64 p] (.tuple #[.string ⟨#[]⟩, .int .i64 1]) := by
  intro w
  obtain ⟨x, hx, c1⟩ := rounds_key key hk
  have c2 := input_arg p (key.size : Int) hp
  clear hk hp
  go_enter Try.func28, Try.ntmps28
  go_wp2_with fail
  refine (c1).calls ?_
  go_wp2_with fail
  refine (c2).calls ?_
  go_wp2_with fail
  go_ret2
  exact ⟨rfl, rfl⟩
set_option maxRecDepth 100000 in
theorem key_yes (key : ByteArray) (p : Nat) (hk : keyOk key) (hp : p ≤ 1) (X : ByteArray) (hX : X = derK key p) : Mak 28 #[.string key, .int .i64 (p : Int)] (.tuple #[.string X, .int .i64 0]) := by
  intro w
  have H0 := Lib.hid (Since.refl w)
  obtain ⟨x, hx, c1⟩ := rounds_key key hk
  obtain ⟨I, hI⟩ : ∃ I, I = inpS p key.size := ⟨_, rfl⟩
  have c2 := input_yes p key.size hp (by unfold keyOk at hk; exact hk) I hI
  have hIs : I.size = 7 := by rw [hI]; rfl
  have b1 := some_bytes I (by omega)
  have b2 := some_bytes_f I (by omega)
  have c3 := Kdf.counter_yes key I key.size hk (by unfold keyOk at hk; omega) (by unfold keyOk at hk; omega) (by omega) X (by rw [hX, derK, hI])
  clear hk hp hX hI hIs
  go_enter Try.func28, Try.ntmps28
  go_wp2_with fail
  refine (c1).calls ?_
  go_wp2_with fail
  refine c2.calls H0.out ?_
  intro w1 h1
  have H1 := Lib.hid h1
  clear h1
  go_wp2_with fail
  refine c3.calls H1.out ?_
  intro w2 h2
  have H2 := Lib.hid h2
  clear h2
  go_wp2_with fail
  go_ret2
  exact ⟨rfl, H2.out⟩
set_option maxRecDepth 100000 in
theorem keys_nokey (key : ByteArray) (hk : ¬ keyOk key) : Ret 26 #[.string key] (.tuple #[.string ⟨#[]⟩, .string ⟨#[]⟩, .int .i64 2]) := by
  intro w
  have c1 := key_nokey key 0 hk
  clear hk
  go_enter Try.func26, Try.ntmps26
  go_wp2_with fail
  refine (c1).calls ?_
  go_wp2_with fail
  go_ret3
  exact ⟨rfl, rfl⟩
set_option maxRecDepth 100000 in
theorem keys_yes (key : ByteArray) (hk : keyOk key) (X Y : ByteArray) (hX : X = derK key 0) (hY : Y = derK key 1) : Mak 26 #[.string key] (.tuple #[.string X, .string Y, .int .i64 0]) := by
  intro w
  have H0 := Lib.hid (Since.refl w)
  have c1 := key_yes key 0 hk (by decide) X hX
  have c2 := key_yes key 1 hk (by decide) Y hY
  clear hk hX hY
  go_enter Try.func26, Try.ntmps26
  go_wp2_with fail
  refine c1.calls H0.out ?_
  intro w1 h1
  have H1 := Lib.hid h1
  clear h1
  go_wp2_with fail
  refine c2.calls H1.out ?_
  intro w2 h2
  have H2 := Lib.hid h2
  clear h2
  go_wp2_with fail
  go_ret3
  exact ⟨rfl, H2.out⟩
end Der
end Go.Proofs.Ytgbfdgopinnlbaa

/- The reference of derive. -/
namespace Go.Proofs.Ytgbfdgopinnlbaa
open Go.RowKit
namespace RefDer
open Rnd Aes Cmac Kdf Der

set_option maxRecDepth 100000 in
theorem input_arg (p n : Int) (h : p < 0 ∨ 1 < p) : Ret 31 #[.int .i64 p, .int .i64 n] (.string ⟨#[]⟩) := by
  intro w
  by_cases h1 : p < 0
  · have t1 : decide (p < 0) = true := decide_eq_true h1
    clear h
    go_enter Try.func31, Try.ntmps31
    go_wp2_with fail
    go_ret
    exact ⟨rfl, rfl⟩
  · have t1 : decide (p < 0) = false := decide_eq_false h1
    have t2 : decide ((1 : Int) < p) = true := decide_eq_true (by omega)
    clear h
    go_enter Try.func31, Try.ntmps31
    go_wp2_with fail
    go_ret
    exact ⟨rfl, rfl⟩
set_option maxRecDepth 100000 in
theorem input_len (p n : Int) (h1 : 0 ≤ p) (h2 : p ≤ 1) (h : n ≠ 16 ∧ n ≠ 24 ∧ n ≠ 32) : Ret 31 #[.int .i64 p, .int .i64 n] (.string ⟨#[]⟩) := by
  intro w
  have t1 : decide (p < 0) = false := decide_eq_false (by omega)
  have t2 : decide ((1 : Int) < p) = false := decide_eq_false (by omega)
  have a1 : (n != 16) = true := by rw [bne_iff_ne]; omega
  have a2 : (n != 24) = true := by rw [bne_iff_ne]; omega
  have a3 : (n != 32) = true := by rw [bne_iff_ne]; omega
  have b1 : (n == 16) = false := by rw [beq_eq_false_iff_ne]; omega
  have b2 : (n == 24) = false := by rw [beq_eq_false_iff_ne]; omega
  have b3 : (n == 32) = false := by rw [beq_eq_false_iff_ne]; omega
  clear h h1 h2
  go_enter Try.func31, Try.ntmps31
  go_wp2_with fail
  go_ret
  exact ⟨rfl, rfl⟩
theorem put2 (m : Nat) (hm : m < 65536) (X : ByteArray) (hX : X = ⟨#[UInt8.ofNat (m / 256), UInt8.ofNat (m % 256)]⟩) : Mak 54 #[.int .u64 (m : Int), .int .i64 2] (.string X) := fun w => by
  have h := RefOct.put_mid (m : Int) 2 w (by omega) (by omega) (by decide) (by decide)
  rw [hX]
  have he : strOfNums (Oct.putL (m : Int) 2) = ⟨#[UInt8.ofNat (m / 256), UInt8.ofNat (m % 256)]⟩ := put2_lit m hm
  rw [← he, RefOct.put_same _ 2 (by decide)]; exact h
set_option maxRecDepth 100000 in
theorem input_16 (p : Int) (A B C D E X : ByteArray) (t1 : decide (p < 0) = false) (t2 : decide ((1 : Int) < p) = false) (e1 : IntKind.u64.wrap p = p)
    (c1 : Mak 54 #[.int .u64 p, .int .i64 2] (.string A)) (c2 : Mak 54 #[.int .u64 2, .int .i64 2] (.string B)) (c3 : Mak 54 #[.int .u64 128, .int .i64 2] (.string C))
    (f1 : A ++ ⟨#[0]⟩ = D) (f2 : D ++ B = E) (f3 : E ++ C = X) (z1 : ¬ 9223372036854775807 < A.size + 1) (z2 : ¬ 9223372036854775807 < D.size + B.size) (z3 : ¬ 9223372036854775807 < E.size + C.size) :
    Mak 31 #[.int .i64 p, .int .i64 16] (.string X) := by
  intro w
  have H0 := Lib.hid (Since.refl w)
  go_enter Try.func31, Try.ntmps31
  go_wp2_with fail
  refine c1.calls H0.out ?_
  intro w1 h1
  have H1 := Lib.hid h1
  clear h1
  go_wp2_with fail
  refine c2.calls H1.out ?_
  intro w2 h2
  have H2 := Lib.hid h2
  clear h2
  go_wp2_with fail
  refine c3.calls H2.out ?_
  intro w3 h3
  have H3 := Lib.hid h3
  clear h3
  go_wp2_with fail
  go_ret
  exact ⟨rfl, H3.out⟩
set_option maxRecDepth 100000 in
theorem input_24 (p : Int) (A B C D E X : ByteArray) (t1 : decide (p < 0) = false) (t2 : decide ((1 : Int) < p) = false) (e1 : IntKind.u64.wrap p = p)
    (c1 : Mak 54 #[.int .u64 p, .int .i64 2] (.string A)) (c2 : Mak 54 #[.int .u64 3, .int .i64 2] (.string B)) (c3 : Mak 54 #[.int .u64 192, .int .i64 2] (.string C))
    (f1 : A ++ ⟨#[0]⟩ = D) (f2 : D ++ B = E) (f3 : E ++ C = X) (z1 : ¬ 9223372036854775807 < A.size + 1) (z2 : ¬ 9223372036854775807 < D.size + B.size) (z3 : ¬ 9223372036854775807 < E.size + C.size) :
    Mak 31 #[.int .i64 p, .int .i64 24] (.string X) := by
  intro w
  have H0 := Lib.hid (Since.refl w)
  go_enter Try.func31, Try.ntmps31
  go_wp2_with fail
  refine c1.calls H0.out ?_
  intro w1 h1
  have H1 := Lib.hid h1
  clear h1
  go_wp2_with fail
  refine c2.calls H1.out ?_
  intro w2 h2
  have H2 := Lib.hid h2
  clear h2
  go_wp2_with fail
  refine c3.calls H2.out ?_
  intro w3 h3
  have H3 := Lib.hid h3
  clear h3
  go_wp2_with fail
  go_ret
  exact ⟨rfl, H3.out⟩
set_option maxRecDepth 100000 in
theorem input_32 (p : Int) (A B C D E X : ByteArray) (t1 : decide (p < 0) = false) (t2 : decide ((1 : Int) < p) = false) (e1 : IntKind.u64.wrap p = p)
    (c1 : Mak 54 #[.int .u64 p, .int .i64 2] (.string A)) (c2 : Mak 54 #[.int .u64 4, .int .i64 2] (.string B)) (c3 : Mak 54 #[.int .u64 256, .int .i64 2] (.string C))
    (f1 : A ++ ⟨#[0]⟩ = D) (f2 : D ++ B = E) (f3 : E ++ C = X) (z1 : ¬ 9223372036854775807 < A.size + 1) (z2 : ¬ 9223372036854775807 < D.size + B.size) (z3 : ¬ 9223372036854775807 < E.size + C.size) :
    Mak 31 #[.int .i64 p, .int .i64 32] (.string X) := by
  intro w
  have H0 := Lib.hid (Since.refl w)
  go_enter Try.func31, Try.ntmps31
  go_wp2_with fail
  refine c1.calls H0.out ?_
  intro w1 h1
  have H1 := Lib.hid h1
  clear h1
  go_wp2_with fail
  refine c2.calls H1.out ?_
  intro w2 h2
  have H2 := Lib.hid h2
  clear h2
  go_wp2_with fail
  refine c3.calls H2.out ?_
  intro w3 h3
  have H3 := Lib.hid h3
  clear h3
  go_wp2_with fail
  go_ret
  exact ⟨rfl, H3.out⟩
theorem input_yes (p n : Nat) (hp : p ≤ 1) (hn : n = 16 ∨ n = 24 ∨ n = 32) (X : ByteArray) (hX : X = inpS p n) : Mak 31 #[.int .i64 (p : Int), .int .i64 (n : Int)] (.string X) := by
  have t1 : decide ((p : Int) < 0) = false := decide_eq_false (by omega)
  have t2 : decide ((1 : Int) < (p : Int)) = false := decide_eq_false (by omega)
  have e1 : IntKind.u64.wrap (p : Int) = (p : Int) := IntWalk.u64_in _ (by omega)
  obtain ⟨A, hA⟩ : ∃ A : ByteArray, A = ⟨#[0, UInt8.ofNat p]⟩ := ⟨_, rfl⟩
  have c1 := put2 p (by omega) A (by rw [hA]; rcases (show p = 0 ∨ p = 1 by omega) with rfl | rfl <;> rfl)
  have hAs : A.size = 2 := by rw [hA]; rfl
  subst hX
  have q : ∀ B C : ByteArray, B.size = 2 → C.size = 2 → ¬ 9223372036854775807 < A.size + 1 ∧ ¬ 9223372036854775807 < (A ++ ⟨#[0]⟩).size + B.size ∧ ¬ 9223372036854775807 < (A ++ ⟨#[0]⟩ ++ B).size + C.size := by
    intro B C hB hC
    rw [ByteArray.size_append, ByteArray.size_append, ByteArray.size_append, hAs, hB, hC]
    decide
  rcases hn with rfl | rfl | rfl
  · obtain ⟨z1, z2, z3⟩ := q ⟨#[0, 2]⟩ ⟨#[0, 128]⟩ rfl rfl
    exact input_16 (p : Int) A _ _ _ _ _ t1 t2 e1 c1 (put2 2 (by decide) _ rfl) (put2 128 (by decide) _ rfl) rfl rfl (by rw [hA]; rfl) z1 z2 z3
  · obtain ⟨z1, z2, z3⟩ := q ⟨#[0, 3]⟩ ⟨#[0, 192]⟩ rfl rfl
    exact input_24 (p : Int) A _ _ _ _ _ t1 t2 e1 c1 (put2 3 (by decide) _ rfl) (put2 192 (by decide) _ rfl) rfl rfl (by rw [hA]; rfl) z1 z2 z3
  · obtain ⟨z1, z2, z3⟩ := q ⟨#[0, 4]⟩ ⟨#[1, 0]⟩ rfl rfl
    exact input_32 (p : Int) A _ _ _ _ _ t1 t2 e1 c1 (put2 4 (by decide) _ rfl) (put2 256 (by decide) _ rfl) rfl rfl (by rw [hA]; rfl) z1 z2 z3
set_option maxRecDepth 100000 in
theorem key_nokey (key : ByteArray) (p : Int) (_hm : key.size ≤ 1000000) (hk : ¬ keyOk key) : Ret 29 #[.string key, .int .i64 p] (.tuple #[.string ⟨#[]⟩, .int .i64 2]) := by
  intro w
  unfold keyOk at hk
  have a1 : ((key.size : Int) != 16) = true := by rw [bne_iff_ne]; omega
  have a2 : ((key.size : Int) != 24) = true := by rw [bne_iff_ne]; omega
  have a3 : ((key.size : Int) != 32) = true := by rw [bne_iff_ne]; omega
  have b1 : ((key.size : Int) == 16) = false := by rw [beq_eq_false_iff_ne]; omega
  have b2 : ((key.size : Int) == 24) = false := by rw [beq_eq_false_iff_ne]; omega
  have b3 : ((key.size : Int) == 32) = false := by rw [beq_eq_false_iff_ne]; omega
  clear hk
  go_enter Try.func29, Try.ntmps29
  go_wp2_with fail
  go_ret2
  exact ⟨rfl, rfl⟩
set_option maxRecDepth 100000 in
theorem key_noarg (key : ByteArray) (p : Int) (hk : keyOk key) (hp : p < 0 ∨ 1 < p) : Ret 29 #[.string key, .int .i64 p] (.tuple #[.string ⟨#[]⟩, .int .i64 1]) := by
  intro w
  unfold keyOk at hk
  by_cases h1 : p < 0
  · have t1 : decide (p < 0) = true := decide_eq_true h1
    clear hp
    rcases hk with hk | hk | hk
    all_goals
      have hki : (key.size : Int) = _ := congrArg (fun n : Nat => (n : Int)) hk
      clear hk
      go_enter Try.func29, Try.ntmps29
      go_wp2_with fail
      go_ret2
      exact ⟨rfl, rfl⟩
  · have t1 : decide (p < 0) = false := decide_eq_false h1
    have t2 : decide ((1 : Int) < p) = true := decide_eq_true (by omega)
    clear hp
    rcases hk with hk | hk | hk
    all_goals
      have hki : (key.size : Int) = _ := congrArg (fun n : Nat => (n : Int)) hk
      clear hk
      go_enter Try.func29, Try.ntmps29
      go_wp2_with fail
      go_ret2
      exact ⟨rfl, rfl⟩
set_option maxRecDepth 100000 in
theorem key_yes (key : ByteArray) (p : Nat) (hk : keyOk key) (hp : p ≤ 1) (X : ByteArray) (hX : X = derK key p) : Mak 29 #[.string key, .int .i64 (p : Int)] (.tuple #[.string X, .int .i64 0]) := by
  intro w
  have H0 := Lib.hid (Since.refl w)
  obtain ⟨I, hI⟩ : ∃ I, I = inpS p key.size := ⟨_, rfl⟩
  have t1 : decide ((p : Int) < 0) = false := decide_eq_false (by omega)
  have t2 : decide ((1 : Int) < (p : Int)) = false := decide_eq_false (by omega)
  have c2 := input_yes p key.size hp (by unfold keyOk at hk; exact hk) I hI
  have hIs : I.size = 7 := by rw [hI]; rfl
  have c3 := RefKdf.counter_yes key I key.size hk (by unfold keyOk at hk; omega) (by unfold keyOk at hk; omega) (by omega) X (by rw [hX, derK, hI])
  unfold keyOk at hk
  clear hp hX hI hIs
  rcases hk with hk | hk | hk
  all_goals
    have hki : (key.size : Int) = _ := congrArg (fun n : Nat => (n : Int)) hk
    rw [hki] at c2 c3
    clear hk
    go_enter Try.func29, Try.ntmps29
    go_wp2_with fail
    refine c2.calls H0.out ?_
    intro w1 h1
    have H1 := Lib.hid h1
    clear h1
    go_wp2_with fail
    refine c3.calls H1.out ?_
    intro w2 h2
    have H2 := Lib.hid h2
    clear h2
    go_wp2_with fail
    go_ret2
    exact ⟨rfl, H2.out⟩
set_option maxRecDepth 100000 in
theorem keys_nokey (key : ByteArray) (hm : key.size ≤ 1000000) (hk : ¬ keyOk key) : Ret 27 #[.string key] (.tuple #[.string ⟨#[]⟩, .string ⟨#[]⟩, .int .i64 2]) := by
  intro w
  have c1 := key_nokey key 0 hm hk
  have c2 := key_nokey key 1 hm hk
  clear hk
  go_enter Try.func27, Try.ntmps27
  go_wp2_with fail
  refine (c1).calls ?_
  go_wp2_with fail
  refine (c2).calls ?_
  go_wp2_with fail
  go_ret3
  exact ⟨rfl, rfl⟩
set_option maxRecDepth 100000 in
theorem keys_yes (key : ByteArray) (hk : keyOk key) (X Y : ByteArray) (hX : X = derK key 0) (hY : Y = derK key 1) : Mak 27 #[.string key] (.tuple #[.string X, .string Y, .int .i64 0]) := by
  intro w
  have H0 := Lib.hid (Since.refl w)
  have c1 := key_yes key 0 hk (by decide) X hX
  have c2 := key_yes key 1 hk (by decide) Y hY
  clear hk hX hY
  go_enter Try.func27, Try.ntmps27
  go_wp2_with fail
  refine c1.calls H0.out ?_
  intro w1 h1
  have H1 := Lib.hid h1
  clear h1
  go_wp2_with fail
  refine c2.calls H1.out ?_
  intro w2 h2
  have H2 := Lib.hid h2
  clear h2
  go_wp2_with fail
  go_ret3
  exact ⟨rfl, H2.out⟩
end RefDer
end Go.Proofs.Ytgbfdgopinnlbaa
