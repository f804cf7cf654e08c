/- The law KdfBegins: fewer bytes are the beginning of more; no conditions. -/
import Derived.Test.YtijpmfnomdngpaaRows
import Derived.WalkKit
import Derived.ProofKit
import Derived.OpenShut
import Derived.Lib.Hide
import Derived.Test.YtijpmfnomdngpaaPk35
namespace Go.Proofs.Ytijpmfnomdngpaa.kdfBegins
open Go.ChangeShapes Go.WideShapes Go.ChangeAt Go.RowKit
open Aes Cmac Kdf

set_option maxRecDepth 100000 in
set_option maxHeartbeats 4000000 in
theorem core_no (key fixed : ByteArray) (n m : Nat) (hn : n ≤ 255) (hm : m ≤ 255) (hk : (key.size : Int) ≤ 100) (hf : (fixed.size : Int) ≤ 100) (B : ByteArray) (e f : Int) (he : (e != 0) = true)
    (c1 : Mak 45 #[.string key, .string fixed, .int .i64 (n : Int)] (.tuple #[.string ⟨#[]⟩, .int .i64 e])) (c2 : Mak 45 #[.string key, .string fixed, .int .i64 ((n : Int) + (m : Int))] (.tuple #[.string B, .int .i64 f])) (w : World) :
    Calls Try.prog 12 #[.string key, .string fixed, .int .u8 (n : Int), .int .u8 (m : Int)] w fun x w' => x = .returned (.bool true) ∧ Since w w' := by
  have H0 := Lib.hid (Since.refl w)
  have t1 : decide ((100 : Int) < (key.size : Int)) = false := decide_eq_false (by omega)
  have t2 : decide ((100 : Int) < (fixed.size : Int)) = false := decide_eq_false (by omega)
  have i1 : (0 : Int) ≤ (n : Int) := by omega
  have i2 : (n : Int) ≤ 255 := by omega
  have i3 : (0 : Int) ≤ (m : Int) := by omega
  have i4 : (m : Int) ≤ 255 := by omega
  go_enter Try.func12, Try.ntmps12
  go_wp2_with fail
  refine c1.calls H0.out ?_
  intro w1 h1
  have H1 := Lib.hid h1
  clear h1
  go_wp2_with fail
  refine c2.calls H1.out ?_
  intro w2 h2
  have H2 := Lib.hid h2
  clear h2
  go_wp2_with fail
  refine awake_mak.calls H2.out ?_
  intro w3 h3
  have H3 := Lib.hid h3
  clear h3
  go_wp2_with fail
  go_ret
  exact ⟨rfl, H3.out⟩
set_option maxRecDepth 100000 in
set_option maxHeartbeats 4000000 in
theorem core (key fixed : ByteArray) (n m : Nat) (hn : n ≤ 255) (hm : m ≤ 255) (hk : (key.size : Int) ≤ 100) (hf : (fixed.size : Int) ≤ 100) (A B : ByteArray) (hA : A.size = n) (hB : B.size = n + m) (hAB : B.extract 0 A.size = A)
    (c1 : Mak 45 #[.string key, .string fixed, .int .i64 (n : Int)] (.tuple #[.string A, .int .i64 0])) (c2 : Mak 45 #[.string key, .string fixed, .int .i64 ((n : Int) + (m : Int))] (.tuple #[.string B, .int .i64 0])) (w : World) :
    Calls Try.prog 12 #[.string key, .string fixed, .int .u8 (n : Int), .int .u8 (m : Int)] w fun x w' => x = .returned (.bool true) ∧ Since w w' := by
  have H0 := Lib.hid (Since.refl w)
  have t1 : decide ((100 : Int) < (key.size : Int)) = false := decide_eq_false (by omega)
  have t2 : decide ((100 : Int) < (fixed.size : Int)) = false := decide_eq_false (by omega)
  have i1 : (0 : Int) ≤ (n : Int) := by omega
  have i2 : (n : Int) ≤ 255 := by omega
  have i3 : (0 : Int) ≤ (m : Int) := by omega
  have i4 : (m : Int) ≤ 255 := by omega
  have i5 : (A.size : Int) ≤ (B.size : Int) := by omega
  have t3 : ((A.size : Int) == (n : Int)) = true := by rw [beq_iff_eq]; omega
  have t4 : ((B.size : Int) == (n : Int) + (m : Int)) = true := by rw [beq_iff_eq]; omega
  clear hA hB
  go_enter Try.func12, Try.ntmps12
  go_wp2_with fail
  refine c1.calls H0.out ?_
  intro w1 h1
  have H1 := Lib.hid h1
  clear h1
  go_wp2_with fail
  refine c2.calls H1.out ?_
  intro w2 h2
  have H2 := Lib.hid h2
  clear h2
  go_wp2_with fail
  refine awake_mak.calls H2.out ?_
  intro w3 h3
  have H3 := Lib.hid h3
  clear h3
  go_wp2_with fail
  go_ret
  exact ⟨rfl, H3.out⟩
theorem outL_take (key fixed : ByteArray) (j k : Nat) (h : j ≤ k) : (outL key fixed k).take (16 * j) = outL key fixed j := by
  induction k with
  | zero =>
    obtain rfl : j = 0 := by omega
    rfl
  | succ k ih =>
    have hl := outL_len key fixed k
    rw [outL_succ]
    by_cases hj : j ≤ k
    · rw [List.take_append_of_le_length (by omega), ih hj]
    · obtain rfl : j = k + 1 := by omega
      rw [← outL_succ, List.take_of_length_le (by rw [outL_len]; exact Nat.le_refl _)]
theorem cnt_size (key fixed : ByteArray) (n : Nat) (h1 : 1 ≤ n) (h2 : n ≤ 4080) : (cntK key fixed (n : Int)).size = n := by
  unfold cntK
  rw [size_bs, List.length_take, outL_len, rndN, if_neg (by omega)]
  simp
  omega
theorem cnt_begins (key fixed : ByteArray) (n m : Nat) (h1 : 1 ≤ n) (h2 : n + m ≤ 4080) : (cntK key fixed ((n + m : Nat) : Int)).extract 0 n = cntK key fixed (n : Int) := by
  apply ba_ext
  unfold cntK
  rw [ext_list, list_bs, list_bs, List.drop_zero, Nat.sub_zero, List.take_take]
  have hr1 : rndN ((n + m : Nat) : Int) = (n + m - 1) / 16 + 1 := by rw [rndN, if_neg (by omega)]; rfl
  have hr2 : rndN (n : Int) = (n - 1) / 16 + 1 := by rw [rndN, if_neg (by omega)]; rfl
  rw [hr1, hr2, ← outL_take key fixed ((n - 1) / 16 + 1) ((n + m - 1) / 16 + 1) (by omega), List.take_take]
  congr 1
  simp
  omega
theorem walk (a0 a1 : ByteArray) (a2 a3 : Int) (w0 : a0.size ≤ maxLen) (w1 : a1.size ≤ maxLen) (w2 : (Lit.int .u8 a2).wf = true) (w3 : (Lit.int .u8 a3).wf = true) (w : World) :
    Calls Try.prog 12 #[.string a0, .string a1, .int .u8 a2, .int .u8 a3] w fun e w' => e = .returned (.bool true) ∧ Below w.heap.size w w' := by
  unfold maxLen at w0 w1
  have hu := u8_of_wf w2
  have hv := u8_of_wf w3
  obtain ⟨n, rfl⟩ := Int.eq_ofNat_of_zero_le hu.1
  obtain ⟨m, rfl⟩ := Int.eq_ofNat_of_zero_le hv.1
  by_cases h1 : a0.size ≤ 100
  · by_cases h2 : a1.size ≤ 100
    · by_cases hk : keyOk a0
      · by_cases hn : n = 0
        · subst hn
          by_cases hm : m = 0
          · subst hm
            exact core_no a0 a1 0 0 (by omega) (by omega) (by omega) (by omega) _ 4 4 rfl (Kdf.counter_nosize a0 a1 _ hk (by decide) (by decide)) (Kdf.counter_nosize a0 a1 _ hk (by decide) (by decide)) w
          · have c2 := Kdf.counter_yes a0 a1 (0 + m) hk (by omega) (by omega) (by omega) _ rfl
            exact core_no a0 a1 0 m (by omega) (by omega) (by omega) (by omega) _ 4 0 rfl (Kdf.counter_nosize a0 a1 _ hk (by decide) (by decide)) (by simpa using c2) w
        · have c1 := Kdf.counter_yes a0 a1 n hk (by omega) (by omega) (by omega) _ rfl
          have c2 := Kdf.counter_yes a0 a1 (n + m) hk (by omega) (by omega) (by omega) _ rfl
          exact core a0 a1 n m (by omega) (by omega) (by omega) (by omega) _ _ (cnt_size a0 a1 n (by omega) (by omega)) (cnt_size a0 a1 (n + m) (by omega) (by omega)) (by rw [cnt_size a0 a1 n (by omega) (by omega)]; exact cnt_begins a0 a1 n m (by omega) (by omega)) c1 (by simpa using c2) w
      · exact core_no a0 a1 n m (by omega) (by omega) (by omega) (by omega) _ 2 2 rfl (Kdf.counter_nokey a0 a1 _ (by omega) hk).mak (Kdf.counter_nokey a0 a1 _ (by omega) hk).mak w
    · have H0 := Lib.hid (Since.refl w)
      go_enter Try.func12, Try.ntmps12
      go_wp2_with fail
      all_goals
        refine awake_mak.calls H0.out ?_
        intro w1 h1
        have H1 := Lib.hid h1
        clear h1
        go_wp2_with fail
        go_ret
        exact ⟨rfl, H1.out⟩
  · have H0 := Lib.hid (Since.refl w)
    go_enter Try.func12, Try.ntmps12
    go_wp2_with fail
    all_goals
      refine awake_mak.calls H0.out ?_
      intro w1 h1
      have H1 := Lib.hid h1
      clear h1
      go_wp2_with fail
      go_ret
      exact ⟨rfl, H1.out⟩

theorem own : ownKnob Try.prog.godebug = none := by kernel_rfl

set_option maxRecDepth 100000 in
theorem lifted (os : Os) (started : os.Started) (H : Type) (enc : TypeId × Value → H) :
    ReturnsInHanded {} Try.checked os 12 .any (Rows.kdfBeginsSpec.pre6 enc Try.prog Try.f12 Rows.kdfBeginsRow.domain false) (Rows.kdfBeginsSpec.post enc Try.prog Try.f12 false true false false) := by
  refine returnsInHanded_of_change (C := Try.checked) own started (by kernel_rfl) Try.func12
    (ChangeSpec.witness6 (enc := enc) (C := Try.checked) false ⟨#[], #[.string ⟨#[]⟩, .string ⟨#[]⟩, .int .u8 0, .int .u8 0], []⟩ 8 (by kernel_rfl) (by kernel_rfl) (by kernel_rfl) (by kernel_rfl)) ?_
  intro W base args ds gs before hval0 hW hcnd _
  have hval : ∀ (j : Nat) t v, Try.f12.params[j]? = some t → args[j]? = some v → Value.okWide Try.prog W .any base t v := hval0
  have hW' := hW
  obtain ⟨p, q, hA0, hV, rfl, hfz, hnd⟩ := hW
  have hA : DataW.TrodAll enc Try.prog W 0 (fun _ => true) true Try.f12.params.toList args.toList ds p := hA0
  rw [Try.params12] at hA hval
  obtain ⟨v0, vs0, d0, ds0, p0, q0, hargs, rfl, rfl, h0, r0⟩ := trodAll_cons hA
  obtain ⟨v1, vs1, d1, ds1, p1, q1, rfl, rfl, rfl, h1, r1⟩ := trodAll_cons r0
  obtain ⟨v2, vs2, d2, ds2, p2, q2, rfl, rfl, rfl, h2, r2⟩ := trodAll_cons r1
  obtain ⟨v3, vs3, d3, ds3, p3, q3, rfl, rfl, rfl, h3, r3⟩ := trodAll_cons r2
  obtain ⟨rfl, rfl, rfl⟩ := trodAll_nil r3
  obtain rfl : args = #[v0, v1, v2, v3] := by cases args; simp_all
  obtain ⟨rfl, rfl⟩ := trodVars_none hV
  obtain ⟨a0, rfl, rfl, rfl, w0⟩ := Go.ChangeMaps.open_string Try.underlying9 (hval 0 9 v0 rfl rfl) h0
  obtain ⟨a1, rfl, rfl, rfl, w1⟩ := Go.ChangeMaps.open_string Try.underlying9 (hval 1 9 v1 rfl rfl) h1
  obtain ⟨a2, rfl, rfl, rfl, w2⟩ := open_int Try.underlying5 (hval 2 5 v2 rfl rfl) h2
  obtain ⟨a3, rfl, rfl, rfl, w3⟩ := open_int Try.underlying5 (hval 3 5 v3 rfl rfl) h3
  clear hA0 hval0
  simp only [List.append_nil] at hW'
  refine (walk a0 a1 a2 a3 w0 w1 w2 w3 W).mono fun e W' ⟨he, hg⟩ => ?_
  subst he
  exact ⟨_, rfl, _, _, _, _, _, [], hW', (trodAll_cons_mk (shut_bool Try.underlying4 _) trodAll_mk0), (trodAll_cons_mk (Go.ChangeMaps.shut_string Try.underlying9 w0) (trodAll_cons_mk (Go.ChangeMaps.shut_string Try.underlying9 w1) (trodAll_cons_mk (shut_int Try.underlying5 w2) (trodAll_cons_mk (shut_int Try.underlying5 w3) trodAll_mk0)))), rfl, hg.frame _, fun h => by cases h⟩

theorem over : Rows.kdfBeginsRow.holds Try.pinned (OpenSpec.ofChange Rows.kdfBeginsSpec) :=
  OpenClaim.holds_of_wide 12 Try.f12 rfl rfl rfl rfl rfl rfl rfl ⟨rfl, rfl, rfl, rfl, rfl⟩ rfl rfl rfl rfl rfl (by kernel_rfl) Try.func12 (by kernel_rfl)
    (of_decide_eq_true (by kernel_rfl)) (by unfold Func.isWrapper; first | (rw [if_pos (by decide +kernel)]; kernel_rfl) | (rw [if_neg (by decide +kernel)]; exact ⟨rfl, rfl⟩))
    (fun os started H enc _ => lifted os started H enc)

theorem proved : Rows.KdfBeginsSaid :=
  over

end Go.Proofs.Ytijpmfnomdngpaa.kdfBegins
