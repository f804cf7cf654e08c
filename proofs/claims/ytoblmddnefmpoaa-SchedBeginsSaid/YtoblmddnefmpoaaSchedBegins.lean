/- The law SchedBegins: the first keys are the key, there is one more than rounds; unlike keys have unlike ones; no conditions. -/
import Derived.Test.YtoblmddnefmpoaaRows
import Derived.WalkKit
import Derived.ProofKit
import Derived.OpenShut
import Derived.Lib.Hide
import Derived.Test.YtoblmddnefmpoaaSchedAwake
namespace Go.Proofs.Ytoblmddnefmpoaa.schedBegins
open Go.ChangeShapes Go.WideShapes Go.ChangeAt Go.RowKit
open Sched (MakE)

set_option maxRecDepth 100000 in
set_option maxHeartbeats 4000000 in
theorem core_no (a b : ByteArray) (ha : (a.size : Int) ≤ 100) (hb : (b.size : Int) ≤ 100)
    (c1 : Ret 42 #[.string a] (.tuple #[.slice none 0 0, .int .i64 2])) (c2 : Ret 44 #[.int .i64 (a.size : Int)] (.int .i64 0)) (w : World) :
    Calls Try.prog 10 #[.string a, .string b] w fun x w' => x = .returned (.bool true) ∧ Since w w' := by
  have H0 := Lib.hid (Since.refl w)
  go_enter Try.func10, Try.ntmps10
  go_wp2_with fail
  refine (c1).calls ?_
  go_wp2_with fail
  refine (c2).calls ?_
  go_wp2_with fail
  refine Sched.awake_mak.calls H0.out ?_
  intro w1 h1
  have H1 := Lib.hid h1
  clear h1
  go_wp2_with fail
  go_ret
  exact ⟨rfl, H1.out⟩
set_option maxRecDepth 100000 in
set_option maxHeartbeats 4000000 in
theorem core (a b : ByteArray) (ha : (a.size : Int) ≤ 100) (hb : (b.size : Int) ≤ 100) (ks ls : List ByteArray) (n : Nat) (hn : n ≤ 8) (e : Int) (J : ByteArray) (hk : ks.length = n + 7) (hJs : (J.size : Int) = 16 * ((n : Int) + 7)) (hJa : J.extract 0 a.size = a) (haJ : (a.size : Int) ≤ (J.size : Int)) (q : Bool) (hq : (a.toList == b.toList) = q) (hkl : decide (ks = ls) = q)
    (c1 : MakE 42 #[.string a] ks 0) (c2 : Ret 44 #[.int .i64 (a.size : Int)] (.int .i64 ((n : Int) + 6))) (c3 : ∀ W x, StrsR W x ks → Calls Try.prog 51 #[x] W fun e w' => e = .returned (.string J) ∧ Below W.heap.size W w')
    (c4 : MakE 42 #[.string b] ls e) (w : World) :
    Calls Try.prog 10 #[.string a, .string b] w fun x w' => x = .returned (.bool true) ∧ Since w w' := by
  have H0 := Lib.hid (Since.refl w)
  have C3 := Lib.hid c3
  have hqq : (q == q) = true := by cases q <;> rfl
  have hJq := str_eq_f (rfl : a = a)
  have HK := Lib.hid hk
  have HKL := Lib.hid hkl
  clear c3 hk hkl
  go_enter Try.func10, Try.ntmps10
  go_wp2_with fail
  refine c1.calls H0.out ?_
  intro v1 w1 ho1 hb1 h1
  obtain ⟨b1, o1, cap1, hv, hlt1, hc1⟩ := Sched.StrsR.form ho1 (by rw [HK.out]; omega)
  rw [HK.out] at hv
  subst hv
  have hlen : (((n + 7 : Nat) : Int)) = (n : Int) + 7 := by omega
  have H1 := Lib.hid h1
  clear h1
  have Ho1 := Lib.hid ho1
  clear ho1
  clear hb1 hlt1 hc1
  go_wp2_with fail
  refine (C3.out _ _ Ho1.out).mono ?_
  rintro x w2 ⟨rfl, h2⟩
  have g1 := Lib.hid (Ho1.out.below h2)
  have H2 := Lib.hid (Since.step H1.out h2)
  clear h2
  go_wp2_with fail
  refine (c2).calls ?_
  go_wp2_with fail
  refine c4.calls H2.out ?_
  intro v4 w4 ho4 hb4 h4
  have g2 := Lib.hid (g1.out.below hb4)
  have H4 := Lib.hid h4
  clear h4
  have Ho4 := Lib.hid ho4
  clear ho4
  clear hb4
  go_wp2_with fail
  refine (equal_strs w4 _ v4 _ _ g2.out Ho4.out q HKL.out.symm).mono ?_
  rintro x w5 ⟨rfl, h5⟩
  have H5 := Lib.hid (Since.step H4.out h5)
  clear h5
  go_wp2_with fail
  refine Sched.awake_mak.calls H5.out ?_
  intro w6 h6
  have H6 := Lib.hid h6
  clear h6
  go_wp2_with fail
  go_ret
  exact ⟨rfl, H6.out⟩
theorem walk (a0 a1 : ByteArray) (w0 : a0.size ≤ maxLen) (w1 : a1.size ≤ maxLen) (w : World) :
    Calls Try.prog 10 #[.string a0, .string a1] w fun e w' => e = .returned (.bool true) ∧ Below w.heap.size w w' := by
  unfold maxLen at w0 w1
  by_cases hl : a0.size ≤ 100 ∧ a1.size ≤ 100
  · obtain ⟨l0, l1⟩ := hl
    by_cases h : a0.size = 16 ∨ a0.size = 24 ∨ a0.size = 32
    · obtain ⟨n, hn⟩ : ∃ n, n = a0.size / 4 := ⟨_, rfl⟩
      have hn1 : n = 4 ∨ n = 6 ∨ n = 8 := by omega
      have hk : a0.size = 4 * n := by omega
      have hal : a0.data.toList.length = 4 * n := hk
      have hcl := Sched.catw_len a0.data.toList n (by omega) hal
      have hck := Sched.cat_keys a0.data.toList n (by omega) hal
      have hbg := Sched.cat_begins a0.data.toList n hal
      obtain ⟨J, hJ⟩ : ∃ J, J = bs (Oct.cat (Sched.keysL a0.data.toList n)) := ⟨_, rfl⟩
      have hJs : J.size = 16 * (n + 7) := by rw [hJ, size_bs, hck, hcl]
      have hJa : J.extract 0 a0.size = a0 := by
        apply ba_ext
        rw [ext_list, hJ, list_bs, hck, List.drop_zero, Nat.sub_zero]
        exact hbg
      have c3 : ∀ W x, StrsR W x (Sched.keysL a0.data.toList n) → Calls Try.prog 51 #[x] W fun e w' => e = .returned (.string J) ∧ Below W.heap.size W w' := fun W x hx => by
        rw [hJ]; exact Oct.join_strs W x _ hx (by rw [hck, hcl]; omega) (by rw [Sched.keysL_len]; omega)
      have c2 : Ret 44 #[.int .i64 (a0.size : Int)] (.int .i64 ((n : Int) + 6)) := by
        rw [hk]; exact Sched.rounds_yes (4 * n) (by omega) _ (by omega)
      have fin : ∀ (ls : List ByteArray) (e : Int), MakE 42 #[.string a1] ls e → (Sched.keysL a0.data.toList n = ls ↔ a0 = a1) → Calls Try.prog 10 #[.string a0, .string a1] w fun e w' => e = .returned (.bool true) ∧ Below w.heap.size w w' := fun ls e c4 hiff => by
        refine core a0 a1 (by omega) (by omega) _ ls n (by omega) e J (Sched.keysL_len _ _) (by omega) hJa (by omega) (decide (a0 = a1)) ?_ ?_ (Sched.keys_yes a0 n hn1 hk) c2 c3 c4 w
        · by_cases h : a0 = a1
          · rw [decide_eq_true h]; exact str_eq_t h
          · rw [decide_eq_false h]; exact str_ne_f h
        · by_cases h : a0 = a1
          · rw [decide_eq_true h]; exact decide_eq_true (hiff.2 h)
          · rw [decide_eq_false h]; exact decide_eq_false (fun h2 => h (hiff.1 h2))
      by_cases h2 : a1.size = 16 ∨ a1.size = 24 ∨ a1.size = 32
      · obtain ⟨m, hm⟩ : ∃ m, m = a1.size / 4 := ⟨_, rfl⟩
        have hm1 : m = 4 ∨ m = 6 ∨ m = 8 := by omega
        have hkm : a1.size = 4 * m := by omega
        refine fin _ 0 (Sched.keys_yes a1 m hm1 hkm) ⟨fun h => ba_ext (Sched.keys_inj _ _ n m (by omega) (by omega) hal hkm h), fun h => ?_⟩
        subst h
        rw [show m = n from by omega]
      · refine fin [] 2 (Sched.MakE.nil (Sched.keys_no a1 (by omega) (by omega))) ⟨fun h => ?_, fun h => ?_⟩
        · have h9 := congrArg List.length h
          rw [Sched.keysL_len] at h9
          simp at h9
        · subst h; omega
    · exact core_no a0 a1 (by omega) (by omega) (Sched.keys_no a0 (by omega) (by omega)) (Sched.rounds_no _ (by omega)) w
  · have H0 := Lib.hid (Since.refl w)
    by_cases h1 : a0.size ≤ 100
    · have h2 : ¬ a1.size ≤ 100 := fun h => hl ⟨h1, h⟩
      clear hl
      go_enter Try.func10, Try.ntmps10
      go_wp2_with fail
      all_goals
        refine Sched.awake_mak.calls H0.out ?_
        intro w1 h1
        have H1 := Lib.hid h1
        clear h1
        go_wp2_with fail
        go_ret
        exact ⟨rfl, H1.out⟩
    · clear hl
      go_enter Try.func10, Try.ntmps10
      go_wp2_with fail
      all_goals
        refine Sched.awake_mak.calls H0.out ?_
        intro w1 h1
        have H1 := Lib.hid h1
        clear h1
        go_wp2_with fail
        go_ret
        exact ⟨rfl, H1.out⟩

theorem own : ownKnob Try.prog.godebug = none := by kernel_rfl

set_option maxRecDepth 100000 in
theorem lifted (os : Os) (started : os.Started) (H : Type) (enc : TypeId × Value → H) :
    ReturnsInHanded {} Try.checked os 10 .any (Rows.schedBeginsSpec.pre6 enc Try.prog Try.f10 Rows.schedBeginsRow.domain false) (Rows.schedBeginsSpec.post enc Try.prog Try.f10 false true false false) := by
  refine returnsInHanded_of_change (C := Try.checked) own started (by kernel_rfl) Try.func10
    (ChangeSpec.witness6 (enc := enc) (C := Try.checked) false ⟨#[], #[.string ⟨#[]⟩, .string ⟨#[]⟩], []⟩ 8 (by kernel_rfl) (by kernel_rfl) (by kernel_rfl) (by kernel_rfl)) ?_
  intro W base args ds gs before hval0 hW hcnd _
  have hval : ∀ (j : Nat) t v, Try.f10.params[j]? = some t → args[j]? = some v → Value.okWide Try.prog W .any base t v := hval0
  have hW' := hW
  obtain ⟨p, q, hA0, hV, rfl, hfz, hnd⟩ := hW
  have hA : DataW.TrodAll enc Try.prog W 0 (fun _ => true) true Try.f10.params.toList args.toList ds p := hA0
  rw [Try.params10] at hA hval
  obtain ⟨v0, vs0, d0, ds0, p0, q0, hargs, rfl, rfl, h0, r0⟩ := trodAll_cons hA
  obtain ⟨v1, vs1, d1, ds1, p1, q1, rfl, rfl, rfl, h1, r1⟩ := trodAll_cons r0
  obtain ⟨rfl, rfl, rfl⟩ := trodAll_nil r1
  obtain rfl : args = #[v0, v1] := by cases args; simp_all
  obtain ⟨rfl, rfl⟩ := trodVars_none hV
  obtain ⟨a0, rfl, rfl, rfl, w0⟩ := Go.ChangeMaps.open_string Try.underlying9 (hval 0 9 v0 rfl rfl) h0
  obtain ⟨a1, rfl, rfl, rfl, w1⟩ := Go.ChangeMaps.open_string Try.underlying9 (hval 1 9 v1 rfl rfl) h1
  clear hA0 hval0
  simp only [List.append_nil] at hW'
  refine (walk a0 a1 w0 w1 W).mono fun e W' ⟨he, hg⟩ => ?_
  subst he
  exact ⟨_, rfl, _, _, _, _, _, [], hW', (trodAll_cons_mk (shut_bool Try.underlying4 _) trodAll_mk0), (trodAll_cons_mk (Go.ChangeMaps.shut_string Try.underlying9 w0) (trodAll_cons_mk (Go.ChangeMaps.shut_string Try.underlying9 w1) trodAll_mk0)), rfl, hg.frame _, fun h => by cases h⟩

theorem over : Rows.schedBeginsRow.holds Try.pinned (OpenSpec.ofChange Rows.schedBeginsSpec) :=
  OpenClaim.holds_of_wide 10 Try.f10 rfl rfl rfl rfl rfl rfl rfl ⟨rfl, rfl, rfl, rfl, rfl⟩ rfl rfl rfl rfl rfl (by kernel_rfl) Try.func10 (by kernel_rfl)
    (of_decide_eq_true (by kernel_rfl)) (by unfold Func.isWrapper; first | (rw [if_pos (by decide +kernel)]; kernel_rfl) | (rw [if_neg (by decide +kernel)]; exact ⟨rfl, rfl⟩))
    (fun os started H enc _ => lifted os started H enc)

theorem proved : Rows.SchedBeginsSaid :=
  over

end Go.Proofs.Ytoblmddnefmpoaa.schedBegins
