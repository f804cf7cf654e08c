/- Joined texts. -/
-- PACK: YtijpmfnomdngpaaKdf YtijpmfnomdngpaaRefKdf YtijpmfnomdngpaaKdfAwake
import Derived.Test.YtijpmfnomdngpaaPk34
import Derived.Test.YtijpmfnomdngpaaPk23

/- Package kdf. -/
namespace Go.Proofs.Ytijpmfnomdngpaa
open Go.RowKit
namespace Kdf
open Rnd Aes Cmac

/-- how many tags n bytes want -/
def rndN (n : Int) : Nat := if n < 1 ∨ 4080 < n then 0 else (n.toNat - 1) / 16 + 1
theorem rounds_ret (n : Int) (hn : n ≤ 9223372036854775807) (x : Int) (hx : x = ((rndN n : Nat) : Int)) : Ret 42 #[.int .i64 n] (.int .i64 x) := by
  intro w
  by_cases h : n < 1 ∨ 4080 < n
  · have hx0 : x = 0 := by rw [hx, rndN, if_pos h]; rfl
    subst hx0
    clear hx
    by_cases h1 : n < 1
    · have t1 : decide (n < 1) = true := decide_eq_true h1
      clear h
      go_enter Try.func42, Try.ntmps42
      go_wp2_with fail
      go_ret
      exact ⟨rfl, rfl⟩
    · have t1 : decide (n < 1) = false := decide_eq_false h1
      have t2 : decide ((4080 : Int) < n) = true := decide_eq_true (by omega)
      clear h
      go_enter Try.func42, Try.ntmps42
      go_wp2_with fail
      go_ret
      exact ⟨rfl, rfl⟩
  · have hx0 : x = (n - 1) / 16 + 1 := by rw [hx, rndN, if_neg h]; omega
    subst hx0
    have t1 : decide (n < 1) = false := decide_eq_false (by omega)
    have t2 : decide ((4080 : Int) < n) = false := decide_eq_false (by omega)
    have i1 : (0 : Int) ≤ n - 1 := by omega
    have i2 : n ≤ 4080 := by omega
    clear h hx
    go_enter Try.func42, Try.ntmps42
    go_wp2_with fail
    go_ret
    exact ⟨rfl, rfl⟩
def tgT (fixed : ByteArray) (i : Nat) : ByteArray := bs (UInt8.ofNat (i + 1) :: fixed.data.toList)
def tg (key fixed : ByteArray) (i : Nat) : ByteArray := tagK key (tgT fixed i)
def tags (key fixed : ByteArray) (k : Nat) : List ByteArray := (List.range k).map (tg key fixed)
theorem tags_len (key fixed : ByteArray) (k : Nat) : (tags key fixed k).length = k := by simp [tags]
theorem tags_succ (key fixed : ByteArray) (k : Nat) : tags key fixed (k + 1) = tags key fixed k ++ [tg key fixed k] := by simp [tags, List.range_succ]
def outL (key fixed : ByteArray) (k : Nat) : List UInt8 := Oct.cat (tags key fixed k)
theorem outL_succ (key fixed : ByteArray) (k : Nat) : outL key fixed (k + 1) = outL key fixed k ++ (tg key fixed k).data.toList := by
  unfold outL; rw [tags_succ, Oct.cat_snoc]
theorem outL_len (key fixed : ByteArray) (k : Nat) : (outL key fixed k).length = 16 * k := by
  induction k with
  | zero => rfl
  | succ k ih =>
    rw [outL_succ, List.length_append, ih]
    have : (tg key fixed k).data.toList.length = 16 := tagK_size _ _
    omega
def cntK (key fixed : ByteArray) (n : Int) : ByteArray := bs ((outL key fixed (rndN n)).take n.toNat)
theorem counter_nokey (key fixed : ByteArray) (n : Int) (hm : key.size ≤ 1000000) (hk : ¬ keyOk key) : Ret 45 #[.string key, .string fixed, .int .i64 n] (.tuple #[.string ⟨#[]⟩, .int .i64 2]) := by
  intro w
  have c1 := subkeys_no key hm hk
  clear hk
  go_enter Try.func45, Try.ntmps45
  go_wp2_with fail
  refine (c1).calls ?_
  go_wp2_with fail
  go_ret2
  exact ⟨rfl, rfl⟩
theorem counter_nosize (key fixed : ByteArray) (n : Int) (hk : keyOk key) (h9 : n ≤ 9223372036854775807) (hn : n < 1 ∨ 4080 < n) : Mak 45 #[.string key, .string fixed, .int .i64 n] (.tuple #[.string ⟨#[]⟩, .int .i64 4]) := by
  intro w
  have H0 := Lib.hid (Since.refl w)
  obtain ⟨A, hA⟩ : ∃ A, A = sub1 key := ⟨_, rfl⟩
  obtain ⟨B, hB⟩ : ∃ B, B = sub2 key := ⟨_, rfl⟩
  have c1 := subkeys_yes key hk A B hA hB
  have c2 := rounds_ret n h9 0 (by rw [rndN, if_pos hn]; rfl)
  clear hk hn hA hB
  go_enter Try.func45, Try.ntmps45
  go_wp2_with fail
  refine c1.calls H0.out ?_
  intro w1 h1
  have H1 := Lib.hid h1
  clear h1
  go_wp2_with fail
  refine (c2).calls ?_
  go_wp2_with fail
  go_ret2
  exact ⟨rfl, H1.out⟩
theorem cut_0 (s : ByteArray) (n : Nat) (h1 : 1 ≤ n) (hn : n ≤ 9223372036854775807) (hs : 0 < s.size) (hm : s.size ≤ 9223372036854775807) (X : ByteArray) (hX : X = bs (s.data.toList.take n)) : Ret 52 #[.string s, .int .i64 0, .int .i64 (n : Int)] (.string X) := fun w => by
  have h := Oct.cut_yes s 0 n w hm hn hs h1
  rw [List.drop_zero] at h
  rw [hX]; exact h
set_option maxRecDepth 100000 in
set_option maxHeartbeats 4000000 in
theorem counter_yes (key fixed : ByteArray) (m : Nat) (hk : keyOk key) (h1 : 1 ≤ m) (h2 : m ≤ 4080) (hf : fixed.size ≤ 100000) (X : ByteArray) (hX : X = cntK key fixed (m : Int)) : Mak 45 #[.string key, .string fixed, .int .i64 (m : Int)] (.tuple #[.string X, .int .i64 0]) := by
  intro w
  have H0 := Lib.hid (Since.refl w)
  obtain ⟨A, hA⟩ : ∃ A, A = sub1 key := ⟨_, rfl⟩
  obtain ⟨B, hB⟩ : ∃ B, B = sub2 key := ⟨_, rfl⟩
  have c1 := subkeys_yes key hk A B hA hB
  obtain ⟨n, hn⟩ : ∃ n, n = rndN (m : Int) := ⟨_, rfl⟩
  have hn2 : n = (m - 1) / 16 + 1 := by rw [hn, rndN, if_neg (by omega)]; simp
  have c2 := rounds_ret (m : Int) (by omega) (n : Int) (by rw [hn])
  have tn : ((n : Int) == 0) = false := by rw [beq_eq_false_iff_ne]; omega
  have hn255 : n ≤ 255 := by omega
  have HN2 := Lib.hid hn2
  have HX : Hid (X = bs ((outL key fixed n).take m)) := Lib.hid (by rw [hX, cntK, ← hn]; rfl)
  have HK := Lib.hid hk
  clear hk hX hA hB hn hn2
  go_enter Try.func45, Try.ntmps45
  go_wp2_with fail
  refine c1.calls H0.out ?_
  intro w1 h1
  have H1 := Lib.hid h1
  clear h1
  go_wp2_with fail
  refine (c2).calls ?_
  go_wp2_with fail
  refine (c2).calls ?_
  go_wp2_with fail
  have HP0 : Hid (Sched.PK w1 (.slice none 0 0) [] w1) := Lib.hid ⟨Since.refl _, World.ownsRow_nil _ _ _ _⟩
  go_loopw [11, 29] (fun v i wr => ∃ (k : Nat) (V : Value), k ≤ n ∧ i = .int .i64 (k : Int) ∧ V = v ∧ Hid (Sched.PK w1 V (tags key fixed k) wr)) (fun _ i _ => n - (intOf i).toNat)
  case atStart => exact ⟨0, _, by omega, rfl, rfl, HP0⟩
  case round =>
    clear HP0
    obtain ⟨k, V, hkn, rfl, rfl, HP⟩ := hrel
    by_cases hlt : k < n
    · have hd : decide ((k : Int) < (n : Int)) = true := decide_eq_true (by omega)
      have e1 : IntKind.u64.wrap (k : Int) = (k : Int) := IntWalk.u64_in _ (by omega)
      have e2 : IntKind.u64.wrap ((k : Int) + 1) = (k : Int) + 1 := IntWalk.u64_in _ (by omega)
      obtain ⟨p, hp⟩ : ∃ p, p = bs [UInt8.ofNat (k + 1)] := ⟨_, rfl⟩
      have c3 : Mak 71 #[.int .u64 ((k : Int) + 1), .int .i64 1] (.string p) := fun w => by
        have h := Oct.put_mid ((k + 1 : Nat) : Int) 1 w (by omega) (by omega) (by decide) (by decide)
        rw [Sched.put1 (k + 1) (by omega), ← hp] at h
        simpa using h
      obtain ⟨J, hJ⟩ : ∃ J, J = tgT fixed k := ⟨_, rfl⟩
      have hJs : J.size = fixed.size + 1 := by rw [hJ, tgT, size_bs, List.length_cons]; rfl
      have hJc : J = bs (Oct.cat [p, fixed]) := by rw [hJ, hp, Oct.cat_two]; rfl
      have c8 := fun W => Oct.join_lit W [p, fixed] 2 rfl #[.string p, .string fixed] rfl J hJc (by omega) (by decide)
      obtain ⟨T, hT⟩ : ∃ T, T = tg key fixed k := ⟨_, rfl⟩
      have c4 := tag_yes key J HK.out (by omega) T (by rw [hT, tg, hJ])
      have HC8 := Lib.hid c8
      have HT := Lib.hid hT
      have HF := Lib.hid (Since.refl wr)
      clear hp hJ hJs hJc c8 hT
      go_wp2_with fail
      refine c3.calls HF.out ?_
      intro w2 h2
      have H2 := Lib.hid h2
      clear h2
      go_wp2_with fail
      refine (HC8.out w2).mono ?_
      rintro e w3 ⟨rfl, h3⟩
      have H3 := Lib.hid (Since.step H2.out h3)
      clear h3
      go_wp2_with fail
      refine (c4).calls H3.out ?_
      intro w4 h4
      have H4 := Lib.hid h4
      clear h4
      have hP4 := Sched.pkstep H4.out HP
      have hO4 := hP4.out.own
      unfold Strs at hO4
      rw [tags_len] at hO4
      have HO4 := Lib.hid hO4
      have HS4 := Lib.hid hP4.out.since
      clear hP4 hO4
      go_wp2_with (at_builtin; refine app_one elemS rfl _ _ rfl w1 w4 V k _ (by rfl) HO4.out HS4.out _ (by rfl) rfl (by omega) (by decide) ?_)
      intro v' w5 hO5 hS5
      have HO5 := Lib.hid hO5
      clear hO5
      have HS5 := Lib.hid hS5
      clear hS5
      go_wp2_with fail
      go_roundw
      case rel => exact ⟨k + 1, _, by omega, by go_num, rfl, Lib.hid ⟨HS5.out, by unfold Strs; rw [tags_len, tags_succ, List.map_append, ← HT.out]; exact HO5.out⟩⟩
      case measure => simp [intOf]; omega
    · have hd : decide ((k : Int) < (n : Int)) = false := decide_eq_false (by omega)
      have hkn2 : k = n := by omega
      obtain ⟨J, hJ⟩ : ∃ J, J = bs (outL key fixed k) := ⟨_, rfl⟩
      have hJs : J.size = 16 * k := by rw [hJ, size_bs, outL_len]
      have c5 : Calls Try.prog 70 #[V] wr fun e w' => e = .returned (.string J) ∧ Below wr.heap.size wr w' := by
        rw [hJ]
        exact Oct.join_strs wr V _ (Strs.read HP.out.own) (by show (outL key fixed k).length ≤ _; rw [outL_len]; omega) (by rw [tags_len]; omega)
      have c6 := cut_0 J m (by omega) (by omega) (by have := HN2.out; omega) (by omega) X (by rw [HX.out, hJ, list_bs, hkn2])
      clear hJ hJs hkn2
      have H_c5 := Lib.hid c5
      clear c5
      go_wp2_with fail
      refine H_c5.out.mono ?_
      rintro e w5 ⟨rfl, h5⟩
      have H5 := Lib.hid (Since.step (Since.step H1.out HP.out.since) h5)
      clear h5
      go_wp2_with fail
      refine (c6).calls ?_
      go_wp2_with fail
      go_ret2
      exact ⟨rfl, H5.out⟩
theorem fixed_mak (a b : ByteArray) (n : Int) (h9 : -9223372036854775808 ≤ n ∧ n ≤ 9223372036854775807) (ha : a.size ≤ 100000) (hb : b.size ≤ 100000) (m : Nat) (hm : m = n.toNat) (P J : ByteArray) (hP : P = strOfNums (Oct.putL (m : Int) 4)) (hJ : J = bs (a.data.toList ++ 0 :: (b.data.toList ++ P.data.toList))) : Mak 47 #[.string a, .string b, .int .i64 n] (.string J) := by
  intro w
  have H0 := Lib.hid (Since.refl w)
  obtain ⟨Z, hZ⟩ : ∃ Z, Z = strOfNums (List.replicate 1 0) := ⟨_, rfl⟩
  have c1 : Mak 65 #[.int .i64 1] (.string Z) := fun w => by rw [hZ]; exact Oct.zeros_yes 1 w (by decide) (by decide)
  have hmx : max n 0 = (m : Int) := by omega
  have e1 : IntKind.u64.wrap (m : Int) = (m : Int) := IntWalk.u64_in _ (by omega)
  have c2 : Mak 71 #[.int .u64 (m : Int), .int .i64 4] (.string P) := fun w => by
    have h := Oct.put_mid (m : Int) 4 w (by omega) (by omega) (by decide) (by decide)
    rw [hP]; exact h
  have hPs : P.size = 4 := by rw [hP, strOfNums_size]; simp [Oct.putL]
  have hJc : J = bs (Oct.cat [a, Z, b, P]) := by
    rw [hJ, hZ]; congr 1
    simp [Oct.cat, nums_list]
  have hJs : J.size = a.size + 1 + b.size + 4 := by
    have h1 : a.data.toList.length = a.size := rfl
    have h2 : b.data.toList.length = b.size := rfl
    have h3 : P.data.toList.length = P.size := rfl
    rw [hJ, size_bs, List.length_append, List.length_cons, List.length_append]; omega
  have c8 := fun W => Oct.join_lit W [a, Z, b, P] 4 rfl #[.string a, .string Z, .string b, .string P] rfl J hJc (by omega) (by decide)
  have HC8 := Lib.hid c8
  clear c8 hJc hJs hPs hP hJ hZ hm
  go_enter Try.func47, Try.ntmps47
  go_wp2_with fail
  refine c1.calls H0.out ?_
  intro w1 h1
  have H1 := Lib.hid h1
  clear h1
  go_wp2_with fail
  refine (c2).calls H1.out ?_
  intro w2 h2
  have H2 := Lib.hid h2
  clear h2
  go_wp2_with fail
  refine (HC8.out w2).mono ?_
  rintro e w3 ⟨rfl, h3⟩
  have H3 := Lib.hid (Since.step H2.out h3)
  clear h3
  go_wp2_with fail
  go_ret
  exact ⟨rfl, H3.out⟩
end Kdf
end Go.Proofs.Ytijpmfnomdngpaa

/- The reference of kdf. -/
namespace Go.Proofs.Ytijpmfnomdngpaa
open Go.RowKit
namespace RefKdf
open Rnd Aes Cmac Kdf

theorem rounds_no (n : Int) (h : n < 1 ∨ 4080 < n) : Ret 43 #[.int .i64 n] (.int .i64 0) := by
  intro w
  by_cases h1 : n < 1
  · have t1 : decide (n < 1) = true := decide_eq_true h1
    clear h
    go_enter Try.func43, Try.ntmps43
    go_wp2_with fail
    go_ret
    exact ⟨rfl, rfl⟩
  · have t1 : decide (n < 1) = false := decide_eq_false h1
    have t2 : decide ((4080 : Int) < n) = true := decide_eq_true (by omega)
    clear h
    go_enter Try.func43, Try.ntmps43
    go_wp2_with fail
    go_ret
    exact ⟨rfl, rfl⟩
theorem rounds_yes (m n : Nat) (h1 : 1 ≤ m) (h2 : m ≤ 4080) (hn : n = (m - 1) / 16 + 1) : Ret 43 #[.int .i64 (m : Int)] (.int .i64 (n : Int)) := by
  intro w
  have t1 : decide ((m : Int) < 1) = false := decide_eq_false (by omega)
  have t2 : decide ((4080 : Int) < (m : Int)) = false := decide_eq_false (by omega)
  have HN := Lib.hid hn
  have hn9 : n ≤ 255 := by omega
  clear hn
  go_enter Try.func43, Try.ntmps43
  go_wp2_with fail
  go_loop [3] (fun i => ∃ k : Nat, k ≤ n ∧ i = .int .i64 (k : Int)) (fun i => n - (intOf i).toNat)
  case atStart => exact ⟨0, by omega, rfl⟩
  case round =>
    obtain ⟨k, hk, rfl⟩ := hrel
    by_cases hlt : k < n
    · have hd : decide ((16 : Int) * (k : Int) < (m : Int)) = true := decide_eq_true (by have := HN.out; omega)
      go_wp2_with fail
      go_round
      case rel => exact ⟨k + 1, by omega, by go_num⟩
      case measure => simp [intOf]; omega
    · obtain rfl : k = n := by omega
      have hd : decide ((16 : Int) * (k : Int) < (m : Int)) = false := decide_eq_false (by have := HN.out; omega)
      go_wp2_with fail
      go_ret
      exact ⟨rfl, rfl⟩
theorem counter_nokey (key fixed : ByteArray) (n : Int) (_hm : key.size ≤ 1000000) (hk : ¬ keyOk key) : Ret 46 #[.string key, .string fixed, .int .i64 n] (.tuple #[.string ⟨#[]⟩, .int .i64 2]) := by
  intro w
  unfold keyOk at hk
  have a1 : ((key.size : Int) != 16) = true := by rw [bne_iff_ne]; omega
  have a2 : ((key.size : Int) != 24) = true := by rw [bne_iff_ne]; omega
  have a3 : ((key.size : Int) != 32) = true := by rw [bne_iff_ne]; omega
  have b1 : ((key.size : Int) == 16) = false := by rw [beq_eq_false_iff_ne]; omega
  have b2 : ((key.size : Int) == 24) = false := by rw [beq_eq_false_iff_ne]; omega
  have b3 : ((key.size : Int) == 32) = false := by rw [beq_eq_false_iff_ne]; omega
  clear hk
  go_enter Try.func46, Try.ntmps46
  go_wp2_with fail
  go_ret2
  exact ⟨rfl, rfl⟩
theorem counter_nosize (key fixed : ByteArray) (n : Int) (hk : keyOk key) (hn : n < 1 ∨ 4080 < n) : Ret 46 #[.string key, .string fixed, .int .i64 n] (.tuple #[.string ⟨#[]⟩, .int .i64 4]) := by
  intro w
  have c2 := rounds_no n hn
  unfold keyOk at hk
  clear hn
  rcases hk with hk | hk | hk
  all_goals
    have hki : (key.size : Int) = _ := congrArg (fun n : Nat => (n : Int)) hk
    clear hk
    go_enter Try.func46, Try.ntmps46
    go_wp2_with fail
    refine (c2).calls ?_
    go_wp2_with fail
    go_ret2
    exact ⟨rfl, rfl⟩
set_option maxRecDepth 100000 in
set_option maxHeartbeats 4000000 in
theorem counter_yes (key fixed : ByteArray) (m : Nat) (hk : keyOk key) (h1 : 1 ≤ m) (h2 : m ≤ 4080) (hf : fixed.size ≤ 100000) (X : ByteArray) (hX : X = cntK key fixed (m : Int)) : Mak 46 #[.string key, .string fixed, .int .i64 (m : Int)] (.tuple #[.string X, .int .i64 0]) := by
  intro w
  have H0 := Lib.hid (Since.refl w)
  obtain ⟨n, hn⟩ : ∃ n, n = (m - 1) / 16 + 1 := ⟨_, rfl⟩
  have c2 := rounds_yes m n h1 h2 hn
  have tn : ((n : Int) == 0) = false := by rw [beq_eq_false_iff_ne]; omega
  have hn255 : n ≤ 255 := by omega
  have HN := Lib.hid hn
  have HX : Hid (X = bs ((outL key fixed n).take m)) := Lib.hid (by rw [hX, cntK, rndN, if_neg (by omega), hn]; rfl)
  have HK := Lib.hid hk
  unfold keyOk at hk
  have hk3 : (decide (key.size = 16) || decide (key.size = 24) || decide (key.size = 32)) = true := by simpa [or_assoc] using hk
  clear hX hn hk3
  rcases hk with hk | hk | hk
  · have a1 : ((key.size : Int) != 16) = false := by rw [bne_eq_false_iff_eq]; omega
    clear hk
    go_enter Try.func46, Try.ntmps46
    go_wp2_with fail
    refine (c2).calls ?_
    go_wp2_with fail
    go_loopw [8, 9] (fun o i wr => ∃ (j : Nat) (O : ByteArray), 1 ≤ j ∧ j ≤ n + 1 ∧ i = .int .i64 (j : Int) ∧ o = .string O ∧ Hid (O = bs (outL key fixed (j - 1))) ∧ Hid (Since w wr)) (fun _ i _ => n + 1 - (intOf i).toNat)
    case atStart => exact ⟨1, ⟨#[]⟩, by omega, by omega, rfl, rfl, Lib.hid rfl, H0⟩
    case round =>
      obtain ⟨j, O, hj1, hj2, rfl, rfl, HO, HS⟩ := hrel
      have hOs : O.size = 16 * (j - 1) := by rw [HO.out, size_bs, outL_len]
      by_cases hlt : j ≤ n
      · have hd : decide ((j : Int) ≤ (n : Int)) = true := decide_eq_true (by omega)
        obtain ⟨k, hk⟩ : ∃ k, j = k + 1 := ⟨j - 1, by omega⟩
        have e1 : IntKind.u8.wrap (j : Int) = (j : Int) := IntWalk.u8_in _ (by omega)
        obtain ⟨p, hp⟩ : ∃ p, p = bs [UInt8.ofNat j] := ⟨_, rfl⟩
        have K1 := RefRnd.conv_any (j : Int) p (by rw [hp]; exact RefRnd.one_num j)
        have hps : p.size = 1 := by rw [hp]; rfl
        have hsz1 : ¬ 9223372036854775807 < p.size + fixed.size := by omega
        obtain ⟨J, hJ⟩ : ∃ J, J = p ++ fixed := ⟨_, rfl⟩
        have hJt : J = tgT fixed k := by
          rw [hJ, hp, tgT, ← hk]
          apply ba_ext
          rw [app_list, list_bs, list_bs]; rfl
        have hJs : J.size = fixed.size + 1 := by rw [hJt, tgT, size_bs, List.length_cons]; rfl
        obtain ⟨T, hT⟩ : ∃ T, T = tg key fixed k := ⟨_, rfl⟩
        have hTs : T.size = 16 := by rw [hT]; exact tagK_size _ _
        have c4 := RefCmac.tag_yes key J HK.out (by omega) T (by rw [hT, tg, hJt])
        have hsz2 : ¬ 9223372036854775807 < O.size + T.size := by omega
        have hO2 : O ++ T = bs (outL key fixed (j + 1 - 1)) := by
          apply ba_ext
          rw [app_list, HO.out, list_bs, list_bs, show j + 1 - 1 = (j - 1) + 1 from by omega, outL_succ, hT, show j - 1 = k from by omega]
        clear hp hps hJt hJs hT hTs hk hOs
        have HO2 := Lib.hid hO2
        clear hO2
        have HJ := Lib.hid hJ
        clear hJ
        go_wp2_with fail
        refine (c2).calls ?_
        go_wp2_with fail
        rw [← HJ.out]
        have HS0 : Hid (Since w (wr.alloc (.cells #[.int .u8 (j : Int)] 5))) := Lib.hid (Since.alloc HS.out _)
        refine c4.calls HS0.out ?_
        intro w1 h1
        have H1 := Lib.hid h1
        clear h1
        go_wp2_with fail
        go_roundw
        case rel => exact ⟨j + 1, _, by omega, by omega, by go_num, rfl, HO2, H1⟩
        case measure => simp [intOf]; omega
      · have hd : decide ((j : Int) ≤ (n : Int)) = false := decide_eq_false (by omega)
        have hjn : j - 1 = n := by omega
        have hX2 : O.extract 0 m = X := by
          apply ba_ext
          rw [ext_list, HO.out, list_bs, HX.out, list_bs, hjn, List.drop_zero, Nat.sub_zero]
        have i1 : (m : Int) ≤ (O.size : Int) := by have := HN.out; omega
        clear hjn hOs
        have HX2 := Lib.hid hX2
        clear hX2
        go_wp2_with fail
        refine (c2).calls ?_
        go_wp2_with fail
        go_ret2
        exact ⟨by rw [← HX2.out]; rfl, HS.out⟩
  · have a1 : ((key.size : Int) != 16) = true := by rw [bne_iff_ne]; omega
    have a2 : ((key.size : Int) != 24) = false := by rw [bne_eq_false_iff_eq]; omega
    have b1 : ((key.size : Int) == 16) = false := by rw [beq_eq_false_iff_ne]; omega
    have b2 : ((key.size : Int) == 24) = true := by rw [beq_iff_eq]; omega
    clear hk
    go_enter Try.func46, Try.ntmps46
    go_wp2_with fail
    refine (c2).calls ?_
    go_wp2_with fail
    go_loopw [8, 9] (fun o i wr => ∃ (j : Nat) (O : ByteArray), 1 ≤ j ∧ j ≤ n + 1 ∧ i = .int .i64 (j : Int) ∧ o = .string O ∧ Hid (O = bs (outL key fixed (j - 1))) ∧ Hid (Since w wr)) (fun _ i _ => n + 1 - (intOf i).toNat)
    case atStart => exact ⟨1, ⟨#[]⟩, by omega, by omega, rfl, rfl, Lib.hid rfl, H0⟩
    case round =>
      obtain ⟨j, O, hj1, hj2, rfl, rfl, HO, HS⟩ := hrel
      have hOs : O.size = 16 * (j - 1) := by rw [HO.out, size_bs, outL_len]
      by_cases hlt : j ≤ n
      · have hd : decide ((j : Int) ≤ (n : Int)) = true := decide_eq_true (by omega)
        obtain ⟨k, hk⟩ : ∃ k, j = k + 1 := ⟨j - 1, by omega⟩
        have e1 : IntKind.u8.wrap (j : Int) = (j : Int) := IntWalk.u8_in _ (by omega)
        obtain ⟨p, hp⟩ : ∃ p, p = bs [UInt8.ofNat j] := ⟨_, rfl⟩
        have K1 := RefRnd.conv_any (j : Int) p (by rw [hp]; exact RefRnd.one_num j)
        have hps : p.size = 1 := by rw [hp]; rfl
        have hsz1 : ¬ 9223372036854775807 < p.size + fixed.size := by omega
        obtain ⟨J, hJ⟩ : ∃ J, J = p ++ fixed := ⟨_, rfl⟩
        have hJt : J = tgT fixed k := by
          rw [hJ, hp, tgT, ← hk]
          apply ba_ext
          rw [app_list, list_bs, list_bs]; rfl
        have hJs : J.size = fixed.size + 1 := by rw [hJt, tgT, size_bs, List.length_cons]; rfl
        obtain ⟨T, hT⟩ : ∃ T, T = tg key fixed k := ⟨_, rfl⟩
        have hTs : T.size = 16 := by rw [hT]; exact tagK_size _ _
        have c4 := RefCmac.tag_yes key J HK.out (by omega) T (by rw [hT, tg, hJt])
        have hsz2 : ¬ 9223372036854775807 < O.size + T.size := by omega
        have hO2 : O ++ T = bs (outL key fixed (j + 1 - 1)) := by
          apply ba_ext
          rw [app_list, HO.out, list_bs, list_bs, show j + 1 - 1 = (j - 1) + 1 from by omega, outL_succ, hT, show j - 1 = k from by omega]
        clear hp hps hJt hJs hT hTs hk hOs
        have HO2 := Lib.hid hO2
        clear hO2
        have HJ := Lib.hid hJ
        clear hJ
        go_wp2_with fail
        refine (c2).calls ?_
        go_wp2_with fail
        rw [← HJ.out]
        have HS0 : Hid (Since w (wr.alloc (.cells #[.int .u8 (j : Int)] 5))) := Lib.hid (Since.alloc HS.out _)
        refine c4.calls HS0.out ?_
        intro w1 h1
        have H1 := Lib.hid h1
        clear h1
        go_wp2_with fail
        go_roundw
        case rel => exact ⟨j + 1, _, by omega, by omega, by go_num, rfl, HO2, H1⟩
        case measure => simp [intOf]; omega
      · have hd : decide ((j : Int) ≤ (n : Int)) = false := decide_eq_false (by omega)
        have hjn : j - 1 = n := by omega
        have hX2 : O.extract 0 m = X := by
          apply ba_ext
          rw [ext_list, HO.out, list_bs, HX.out, list_bs, hjn, List.drop_zero, Nat.sub_zero]
        have i1 : (m : Int) ≤ (O.size : Int) := by have := HN.out; omega
        clear hjn hOs
        have HX2 := Lib.hid hX2
        clear hX2
        go_wp2_with fail
        refine (c2).calls ?_
        go_wp2_with fail
        go_ret2
        exact ⟨by rw [← HX2.out]; rfl, HS.out⟩
  · have a1 : ((key.size : Int) != 16) = true := by rw [bne_iff_ne]; omega
    have a2 : ((key.size : Int) != 24) = true := by rw [bne_iff_ne]; omega
    have a3 : ((key.size : Int) != 32) = false := by rw [bne_eq_false_iff_eq]; omega
    have b1 : ((key.size : Int) == 16) = false := by rw [beq_eq_false_iff_ne]; omega
    have b2 : ((key.size : Int) == 24) = false := by rw [beq_eq_false_iff_ne]; omega
    have b3 : ((key.size : Int) == 32) = true := by rw [beq_iff_eq]; omega
    clear hk
    go_enter Try.func46, Try.ntmps46
    go_wp2_with fail
    refine (c2).calls ?_
    go_wp2_with fail
    go_loopw [8, 9] (fun o i wr => ∃ (j : Nat) (O : ByteArray), 1 ≤ j ∧ j ≤ n + 1 ∧ i = .int .i64 (j : Int) ∧ o = .string O ∧ Hid (O = bs (outL key fixed (j - 1))) ∧ Hid (Since w wr)) (fun _ i _ => n + 1 - (intOf i).toNat)
    case atStart => exact ⟨1, ⟨#[]⟩, by omega, by omega, rfl, rfl, Lib.hid rfl, H0⟩
    case round =>
      obtain ⟨j, O, hj1, hj2, rfl, rfl, HO, HS⟩ := hrel
      have hOs : O.size = 16 * (j - 1) := by rw [HO.out, size_bs, outL_len]
      by_cases hlt : j ≤ n
      · have hd : decide ((j : Int) ≤ (n : Int)) = true := decide_eq_true (by omega)
        obtain ⟨k, hk⟩ : ∃ k, j = k + 1 := ⟨j - 1, by omega⟩
        have e1 : IntKind.u8.wrap (j : Int) = (j : Int) := IntWalk.u8_in _ (by omega)
        obtain ⟨p, hp⟩ : ∃ p, p = bs [UInt8.ofNat j] := ⟨_, rfl⟩
        have K1 := RefRnd.conv_any (j : Int) p (by rw [hp]; exact RefRnd.one_num j)
        have hps : p.size = 1 := by rw [hp]; rfl
        have hsz1 : ¬ 9223372036854775807 < p.size + fixed.size := by omega
        obtain ⟨J, hJ⟩ : ∃ J, J = p ++ fixed := ⟨_, rfl⟩
        have hJt : J = tgT fixed k := by
          rw [hJ, hp, tgT, ← hk]
          apply ba_ext
          rw [app_list, list_bs, list_bs]; rfl
        have hJs : J.size = fixed.size + 1 := by rw [hJt, tgT, size_bs, List.length_cons]; rfl
        obtain ⟨T, hT⟩ : ∃ T, T = tg key fixed k := ⟨_, rfl⟩
        have hTs : T.size = 16 := by rw [hT]; exact tagK_size _ _
        have c4 := RefCmac.tag_yes key J HK.out (by omega) T (by rw [hT, tg, hJt])
        have hsz2 : ¬ 9223372036854775807 < O.size + T.size := by omega
        have hO2 : O ++ T = bs (outL key fixed (j + 1 - 1)) := by
          apply ba_ext
          rw [app_list, HO.out, list_bs, list_bs, show j + 1 - 1 = (j - 1) + 1 from by omega, outL_succ, hT, show j - 1 = k from by omega]
        clear hp hps hJt hJs hT hTs hk hOs
        have HO2 := Lib.hid hO2
        clear hO2
        have HJ := Lib.hid hJ
        clear hJ
        go_wp2_with fail
        refine (c2).calls ?_
        go_wp2_with fail
        rw [← HJ.out]
        have HS0 : Hid (Since w (wr.alloc (.cells #[.int .u8 (j : Int)] 5))) := Lib.hid (Since.alloc HS.out _)
        refine c4.calls HS0.out ?_
        intro w1 h1
        have H1 := Lib.hid h1
        clear h1
        go_wp2_with fail
        go_roundw
        case rel => exact ⟨j + 1, _, by omega, by omega, by go_num, rfl, HO2, H1⟩
        case measure => simp [intOf]; omega
      · have hd : decide ((j : Int) ≤ (n : Int)) = false := decide_eq_false (by omega)
        have hjn : j - 1 = n := by omega
        have hX2 : O.extract 0 m = X := by
          apply ba_ext
          rw [ext_list, HO.out, list_bs, HX.out, list_bs, hjn, List.drop_zero, Nat.sub_zero]
        have i1 : (m : Int) ≤ (O.size : Int) := by have := HN.out; omega
        clear hjn hOs
        have HX2 := Lib.hid hX2
        clear hX2
        go_wp2_with fail
        refine (c2).calls ?_
        go_wp2_with fail
        go_ret2
        exact ⟨by rw [← HX2.out]; rfl, HS.out⟩
theorem fixed_mak (a b : ByteArray) (n : Int) (h9 : -9223372036854775808 ≤ n ∧ n ≤ 9223372036854775807) (ha : a.size ≤ 100000) (hb : b.size ≤ 100000) (m : Nat) (hm : m = n.toNat) (P J : ByteArray) (hP : P = strOfNums (Oct.putL (m : Int) 4)) (hJ : J = bs (a.data.toList ++ 0 :: (b.data.toList ++ P.data.toList))) : Mak 48 #[.string a, .string b, .int .i64 n] (.string J) := by
  intro w
  have H0 := Lib.hid (Since.refl w)
  have e1 : IntKind.u64.wrap (m : Int) = (m : Int) := IntWalk.u64_in _ (by omega)
  have e0 : IntKind.u64.wrap 0 = 0 := IntWalk.u64_in _ (by omega)
  have c2 : Mak 72 #[.int .u64 (m : Int), .int .i64 4] (.string P) := fun w => by
    have h := RefOct.put_mid (m : Int) 4 w (by omega) (by omega) (by decide) (by decide)
    rw [hP, RefOct.put_same _ 4 (by decide)]; exact h
  have hPs : P.size = 4 := by rw [hP, strOfNums_size]; simp [Oct.putL]
  obtain ⟨A, hA⟩ : ∃ A, A = a ++ ⟨#[0]⟩ := ⟨_, rfl⟩
  have hAs : A.size = a.size + 1 := by
    show A.data.toList.length = _
    rw [hA, app_list, List.length_append]; rfl
  obtain ⟨B, hB⟩ : ∃ B, B = A ++ b := ⟨_, rfl⟩
  have hBs : B.size = a.size + 1 + b.size := by
    have h1 : A.data.toList.length = A.size := rfl
    have h2 : b.data.toList.length = b.size := rfl
    show B.data.toList.length = _
    rw [hB, app_list, List.length_append]; omega
  have z1 : ¬ 9223372036854775807 < a.size + 1 := by omega
  have z2 : ¬ 9223372036854775807 < A.size + b.size := by omega
  have z3 : ¬ 9223372036854775807 < B.size + P.size := by omega
  have hBP : B ++ P = J := by
    apply ba_ext
    rw [hJ, app_list, hB, app_list, hA, app_list, list_bs, List.append_assoc, List.append_assoc]; rfl
  by_cases hn : n < 0
  · have t1 : decide (n < 0) = true := decide_eq_true hn
    have hm0 : m = 0 := by omega
    subst hm0
    have c20 : Mak 72 #[.int .u64 0, .int .i64 4] (.string P) := by simpa using c2
    clear hn hm hP hJ hPs hAs hBs
    have hA' := hA.symm
    have hB' := hB.symm
    clear hA hB
    go_enter Try.func48, Try.ntmps48
    go_wp2_with fail
    refine c20.calls H0.out ?_
    intro w1 h1
    have H1 := Lib.hid h1
    clear h1
    go_wp2_with fail
    go_ret
    exact ⟨rfl, H1.out⟩
  · have t1 : decide (n < 0) = false := decide_eq_false hn
    obtain rfl : n = (m : Int) := by omega
    clear hn hm hP hJ hPs hAs hBs
    have hA' := hA.symm
    have hB' := hB.symm
    clear hA hB
    go_enter Try.func48, Try.ntmps48
    go_wp2_with fail
    refine c2.calls H0.out ?_
    intro w1 h1
    have H1 := Lib.hid h1
    clear h1
    go_wp2_with fail
    go_ret
    exact ⟨rfl, H1.out⟩
end RefKdf
end Go.Proofs.Ytijpmfnomdngpaa

/- What the law calls awake, for layer 12. -/
namespace Go.Proofs.Ytijpmfnomdngpaa
open Go.RowKit
namespace Kdf
open Rnd Aes Cmac
def kKey : ByteArray := ⟨#[48, 49, 50, 51, 52, 53, 54, 55, 56, 57, 97, 98, 99, 100, 101, 102]⟩
def kX : ByteArray := ⟨#[120]⟩
theorem cnt16 (key fixed : ByteArray) : cntK key fixed 16 = tg key fixed 0 := by
  have h : rndN 16 = 1 := rfl
  unfold cntK
  rw [h, outL_succ]
  have h9 : (tg key fixed 0).data.toList.length = 16 := tagK_size _ _
  show bs (List.take 16 ([] ++ (tg key fixed 0).data.toList)) = _
  rw [List.nil_append, List.take_of_length_le (by omega)]
  exact bs_list _
set_option maxHeartbeats 1000000 in
theorem awake_mak : Mak 44 #[] (.bool true) := by
  intro w
  have H0 := Lib.hid (Since.refl w)
  obtain ⟨T, hT⟩ : ∃ T, T = tg kKey kX 0 := ⟨_, rfl⟩
  have c1 := counter_yes kKey kX 16 (Or.inl rfl) (by decide) (by decide) (by decide) T (by rw [hT]; exact (cnt16 kKey kX).symm)
  have c2 := RefCmac.tag_yes kKey ⟨#[1, 120]⟩ (Or.inl rfl) (by decide) T (by rw [hT]; rfl)
  have c3 : Ret 42 #[.int .i64 17] (.int .i64 2) := rounds_ret 17 (by decide) 2 (by decide)
  have c4 := fixed_mak ⟨#[97]⟩ ⟨#[98]⟩ 128 (by decide) (by decide) (by decide) 128 rfl ⟨#[0, 0, 0, 128]⟩ ⟨#[97, 0, 98, 0, 0, 0, 128]⟩ (by decide +kernel) (by decide +kernel)
  have c1' : Mak 45 #[.string kKey, .string kX, .int .i64 16] (.tuple #[.string T, .int .i64 0]) := c1
  unfold kKey kX at c1'
  unfold kKey at c2
  clear hT c1
  go_enter Try.func44, Try.ntmps44
  go_wp2_with fail
  refine c1'.calls H0.out ?_
  intro w1 h1
  have H1 := Lib.hid h1
  clear h1
  go_wp2_with fail
  refine c2.calls H1.out ?_
  intro w2 h2
  have H2 := Lib.hid h2
  clear h2
  go_wp2_with fail
  refine (c3).calls ?_
  go_wp2_with fail
  refine c4.calls H2.out ?_
  intro w3 h3
  have H3 := Lib.hid h3
  clear h3
  go_wp2_with fail
  go_ret
  exact ⟨rfl, H3.out⟩
end Kdf
end Go.Proofs.Ytijpmfnomdngpaa
