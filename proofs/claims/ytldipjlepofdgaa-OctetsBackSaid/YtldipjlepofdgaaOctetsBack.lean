/- The law OctetsBack: for every number, texts and size, what was put is got, what was cut is joined, what was turned twice is as it was; no conditions. -/
import Derived.Test.YtldipjlepofdgaaRows
import Derived.WalkKit
import Derived.ProofKit
import Derived.OpenShut
import Derived.Lib.Hide
import Derived.Deep.RegionWith
import Derived.Test.YtldipjlepofdgaaOctAwake
import Derived.Test.YtldipjlepofdgaaOct3
import Derived.Test.YtldipjlepofdgaaJoin2
import Derived.Test.YtldipjlepofdgaaSlEq
namespace Go.Proofs.Ytldipjlepofdgaa.octetsBack
open Go.ChangeShapes Go.WideShapes Go.ChangeAt Go.RowKit

theorem put_get (n : Int) (h0 : 0 ≤ n) (h1 : n ≤ 18446744073709551615) : (Oct.numN (strOfNums (Oct.putL n 8)).data.toList : Int) = n := by
  obtain ⟨m, rfl⟩ := Int.eq_ofNat_of_zero_le h0
  have hb : ∀ k : Nat, (UInt8.ofNat ((m : Int) / 2 ^ (8 * k) % 256).toNat).toNat = m / 2 ^ (8 * k) % 256 := fun k => by
    have h2 : ((m : Int) / 2 ^ (8 * k) % 256) = ((m / 2 ^ (8 * k) % 256 : Nat) : Int) := by
      rw [Int.natCast_emod, Int.natCast_ediv, Int.natCast_pow]; rfl
    rw [h2, Int.toNat_natCast, UInt8.toNat_ofNat']
    omega
  have hl : (strOfNums (Oct.putL m 8)).data.toList = [0, 1, 2, 3, 4, 5, 6, 7].map fun i => UInt8.ofNat ((m : Int) / 2 ^ (8 * (7 - i)) % 256).toNat := rfl
  rw [hl]
  simp only [Oct.numN, List.map_cons, List.map_nil, List.foldl_cons, List.foldl_nil, hb]
  simp only [Nat.reduceSub, Nat.reduceMul, Nat.reducePow, Nat.div_one]
  omega

theorem cat_pieces (l : List UInt8) (n : Nat) (h : 1 ≤ n) : ∀ m, l.length ≤ n * m → Oct.cat (Oct.pcs l n m) = l := by
  have hk : ∀ k, Oct.cat (Oct.pcs l n k) = l.take (n * k) := by
    intro k
    induction k with
    | zero => simp [Oct.pcs, Oct.cat]
    | succ k ih =>
      rw [Oct.pcs_succ, Oct.cat_snoc, ih]
      show _ ++ (l.drop (n * k)).take n = _
      rw [Nat.mul_succ, List.take_add]
  intro m hm
  rw [hk m, List.take_of_length_le hm]

theorem xor_twice (s t : ByteArray) (m : Nat) (hm : m = min s.size t.size) (X : ByteArray) (hX : X = strOfNums ((List.range m).map (Oct.xorV s.data.toList t.data.toList))) :
    strOfNums ((List.range (min X.size t.size)).map (Oct.xorV X.data.toList t.data.toList)) = s.extract 0 m := by
  have hXs : X.size = m := by rw [hX, strOfNums_size]; simp
  have hXg : ∀ i, i < m → X.data.toList[i]? = some (UInt8.ofNat ((s.data.toList.getD i 0).toNat ^^^ (t.data.toList.getD i 0).toNat)) := fun i hi => by
    rw [hX, nums_list]
    simp [Oct.xorV, hi]
  apply ba_ext
  rw [ext_list, nums_list, hXs, show min m t.size = m from by omega, List.drop_zero, Nat.sub_zero]
  apply List.ext_getElem?
  intro i
  by_cases hi : i < m
  · have h9 : s.size = s.data.toList.length := rfl
    have hsi : s.data.toList.getD i 0 = s.data.toList[i] := by simp [List.getD, List.getElem?_eq_getElem (show i < s.data.toList.length by omega)]
    rw [List.getElem?_take_of_lt hi, List.getElem?_eq_getElem (l := s.data.toList) (by omega), ← hsi]
    simp only [List.getElem?_map, List.getElem?_range hi, Option.map_some]
    congr 1
    unfold Oct.xorV
    rw [show X.data.toList.getD i 0 = UInt8.ofNat ((s.data.toList.getD i 0).toNat ^^^ (t.data.toList.getD i 0).toNat) from by unfold List.getD; rw [hXg i hi]; rfl]
    have a1 := (s.data.toList.getD i 0).toNat_lt
    have a2 := (t.data.toList.getD i 0).toNat_lt
    rw [Int.toNat_natCast, UInt8.toNat_ofNat', Nat.mod_eq_of_lt (Nat.xor_lt_two_pow (n := 8) a1 a2), Nat.xor_assoc, Nat.xor_self, Nat.xor_zero, UInt8.ofNat_toNat]
  · rw [List.getElem?_eq_none (by rw [List.length_map, List.length_map, List.length_range]; omega), List.getElem?_eq_none (by rw [List.length_take]; exact Nat.le_trans (Nat.min_le_left _ _) (by omega))]

set_option maxRecDepth 100000 in
set_option maxHeartbeats 1000000 in
theorem core (n : Int) (s t : ByteArray) (size : Int) (hs : s.size ≤ 500) (ht : t.size ≤ 500) (U X : ByteArray) (L : List ByteArray) (m : Nat) (hm : m = min s.size t.size)
    (c1 : Mak 15 #[.int .u64 n, .int .i64 8] (.string U)) (c2 : Ret 13 #[.string U] (.tuple #[.int .u64 n, .bool true]))
    (c3 : 0 < size → MakS 20 #[.string s, .int .i64 size] L) (c4 : ∀ w x, 0 < size → StrsR w x L → Calls Try.prog 30 #[x] w fun e w' => e = .returned (.string s) ∧ Below w.heap.size w w')
    (c5 : Mak 28 #[.string s, .string t] (.string X)) (c6 : Mak 28 #[.string X, .string t] (.string (s.extract 0 m))) (w : World) :
    Calls Try.prog 6 #[.int .u64 n, .string s, .string t, .int .i64 size] w fun e w' => e = .returned (.bool true) ∧ Since w w' := by
  have H0 := Lib.hid (Since.refl w)
  have hm1 : m ≤ s.size := by omega
  have hmin : min (s.size : Int) (t.size : Int) = (m : Int) := by omega
  have hm0 : 0 ≤ (m : Int) := by omega
  have Hm := Lib.hid hm
  clear hm
  have hbn : (n != n) = false := by simp
  by_cases hp : 0 < size
  · go_enter Try.func6, Try.ntmps6
    go_wp2_with fail
    refine (c1).calls H0.out ?_
    intro w1 h1
    have H1 := Lib.hid h1
    clear h1
    go_wp2_with fail
    refine (c2).calls ?_
    go_wp2_with fail
    refine (c3 hp).calls H1.out ?_
    intro v2 w2 o2 b2 h2
    have H_o2 := Lib.hid o2
    clear o2
    have H_b2 := Lib.hid b2
    clear b2
    have H2 := Lib.hid h2
    clear h2
    go_wp2_with fail
    refine (c4 w2 v2 hp H_o2.out.read).mono ?_
    rintro e w3 ⟨rfl, h3⟩
    have H3 := Lib.hid (H2.out.step h3)
    clear h3
    go_wp2_with fail
    have HW := H3
    go_region_with (first
      | (go_at_call_of 28 (Value.string s); refine c5.calls (Since.drew HW.out) ?_; intro w5 h5; have H5 := Lib.hid h5; clear h5)
      | (go_at_call_of 28 (Value.string X); refine c6.calls H5.out ?_; intro w6 h6; have H6 := Lib.hid h6; clear h6)
      | (go_at_call 12; refine Oct.awake_mak.calls H6.out ?_; intro w7 h7; have H7 := Lib.hid h7; clear h7))
    all_goals
      go_wp2_with fail
      go_ret
      exact ⟨rfl, H7.out⟩
  · have hp2 : size ≤ 0 := by omega
    go_enter Try.func6, Try.ntmps6
    go_wp2_with fail
    refine (c1).calls H0.out ?_
    intro w1 h1
    have H1 := Lib.hid h1
    clear h1
    go_wp2_with fail
    refine (c2).calls ?_
    go_wp2_with fail
    have HW := H1
    go_region_with (first
      | (go_at_call_of 28 (Value.string s); refine c5.calls (Since.drew HW.out) ?_; intro w5 h5; have H5 := Lib.hid h5; clear h5)
      | (go_at_call_of 28 (Value.string X); refine c6.calls H5.out ?_; intro w6 h6; have H6 := Lib.hid h6; clear h6)
      | (go_at_call 12; refine Oct.awake_mak.calls H6.out ?_; intro w7 h7; have H7 := Lib.hid h7; clear h7))
    all_goals
      go_wp2_with fail
      go_ret
      exact ⟨rfl, H7.out⟩

theorem walk (a0 : Int) (a1 a2 : ByteArray) (a3 : Int) (w0 : (Lit.int .u64 a0).wf = true) (w1 : a1.size ≤ maxLen) (w2 : a2.size ≤ maxLen) (w3 : (Lit.int .i64 a3).wf = true) (w : World) :
    Calls Try.prog 6 #[.int .u64 a0, .string a1, .string a2, .int .i64 a3] w fun e w' => e = .returned (.bool true) ∧ Below w.heap.size w w' := by
  obtain ⟨b0, t0⟩ := u64_of_wf w0
  have t3 := i64_of_wf w3
  unfold maxLen at w1 w2
  by_cases hs : a1.size ≤ 500
  · by_cases ht : a2.size ≤ 500
    · have hg : Ret 13 #[.string (strOfNums (Oct.putL a0 8))] (.tuple #[.int .u64 a0, .bool true]) := fun w => by
        have h := Oct.get_in (strOfNums (Oct.putL a0 8)) w (by rw [strOfNums_size]; simp [Oct.putL]) (by rw [strOfNums_size]; simp [Oct.putL])
        rwa [put_get a0 b0 t0] at h
      have x1 : Mak 28 #[.string a1, .string a2] (.string (strOfNums ((List.range (min a1.size a2.size)).map (Oct.xorV a1.data.toList a2.data.toList)))) := fun w => Oct.xor_any a1 a2 w _ rfl (by omega) (by omega)
      have x2 : Mak 28 #[.string (strOfNums ((List.range (min a1.size a2.size)).map (Oct.xorV a1.data.toList a2.data.toList))), .string a2] (.string (a1.extract 0 (min a1.size a2.size))) := fun w => by
        have h := Oct.xor_any (strOfNums ((List.range (min a1.size a2.size)).map (Oct.xorV a1.data.toList a2.data.toList))) a2 w _ rfl (by rw [strOfNums_size]; simp; omega) (by omega)
        rwa [xor_twice a1 a2 _ rfl _ rfl] at h
      by_cases hp : 0 < a3
      · obtain ⟨n, rfl⟩ := Int.eq_ofNat_of_zero_le (show 0 ≤ a3 by omega)
        have h9 : a1.size = a1.data.toList.length := rfl
        have hlen : a1.data.toList.length ≤ n * ((a1.size + n - 1) / n) := by
          have h1 := Nat.div_add_mod (a1.size + n - 1) n
          have h2 := Nat.mod_lt (a1.size + n - 1) (show 0 < n by omega)
          omega
        have hcat : bs (Oct.cat (Oct.pcs a1.data.toList n ((a1.size + n - 1) / n))) = a1 := by rw [cat_pieces _ n (by omega) _ hlen, bs_list]
        refine core a0 a1 a2 n hs ht _ _ _ _ rfl (fun w => Oct.put_mid a0 8 w b0 t0 (by decide) (by decide)) hg (fun _ => Oct.pieces_mak a1 n (by omega) (by omega) (by omega) _ rfl) (fun w x _ hx => ?_) x1 x2 w
        have h := Oct.join_strs w x _ hx (by rw [cat_pieces _ n (by omega) _ hlen]; omega) (by
          rw [Oct.pcs_len]
          have h1 : (a1.size + n - 1) / n ≤ a1.size + 1 := by
            have h2 : (a1.size + n - 1) / n * n ≤ a1.size + n - 1 := Nat.div_mul_le_self _ _
            apply Classical.byContradiction
            intro h3
            have h4 : (a1.size + 2) * n ≤ (a1.size + n - 1) / n * n := Nat.mul_le_mul_right _ (by omega)
            have h5 : (a1.size + 2) * n = a1.size * n + 2 * n := Nat.add_mul _ _ _
            have h6 : a1.size ≤ a1.size * n := Nat.le_mul_of_pos_right _ (by omega)
            omega
          omega)
        rwa [hcat] at h
      · exact core a0 a1 a2 a3 hs ht _ _ [] _ rfl (fun w => Oct.put_mid a0 8 w b0 t0 (by decide) (by decide)) hg (fun h => absurd h hp) (fun w x h => absurd h hp) x1 x2 w
    · have H0 := Lib.hid (Since.refl w)
      clear t3
      go_enter Try.func6, Try.ntmps6
      go_wp2_with fail
      all_goals
        refine (Oct.awake_mak).calls H0.out ?_
        intro w3 h3
        have H3 := Lib.hid h3
        clear h3
        go_wp2_with fail
        go_ret
        exact ⟨rfl, H3.out⟩
  · have H0 := Lib.hid (Since.refl w)
    clear t3
    go_enter Try.func6, Try.ntmps6
    go_wp2_with fail
    refine (Oct.awake_mak).calls H0.out ?_
    intro w3 h3
    have H3 := Lib.hid h3
    clear h3
    go_wp2_with fail
    go_ret
    exact ⟨rfl, H3.out⟩

theorem own : ownKnob Try.prog.godebug = none := by kernel_rfl

set_option maxRecDepth 100000 in
theorem lifted (os : Os) (started : os.Started) (H : Type) (enc : TypeId × Value → H) :
    ReturnsInHanded {} Try.checked os 6 .any (Rows.octetsBackSpec.pre6 enc Try.prog Try.f6 Rows.octetsBackRow.domain false) (Rows.octetsBackSpec.post enc Try.prog Try.f6 false true false false) := by
  refine returnsInHanded_of_change (C := Try.checked) own started (by kernel_rfl) Try.func6
    (ChangeSpec.witness6 (enc := enc) (C := Try.checked) false ⟨#[], #[.int .u64 0, .string ⟨#[]⟩, .string ⟨#[]⟩, .int .i64 0], []⟩ 8 (by kernel_rfl) (by kernel_rfl) (by kernel_rfl) (by kernel_rfl)) ?_
  intro W base args ds gs before hval0 hW hcnd _
  have hval : ∀ (j : Nat) t v, Try.f6.params[j]? = some t → args[j]? = some v → Value.okWide Try.prog W .any base t v := hval0
  have hW' := hW
  obtain ⟨p, q, hA0, hV, rfl, hfz, hnd⟩ := hW
  have hA : DataW.TrodAll enc Try.prog W 0 (fun _ => true) true Try.f6.params.toList args.toList ds p := hA0
  rw [Try.params6] at hA hval
  obtain ⟨v0, vs0, d0, ds0, p0, q0, hargs, rfl, rfl, h0, r0⟩ := trodAll_cons hA
  obtain ⟨v1, vs1, d1, ds1, p1, q1, rfl, rfl, rfl, h1, r1⟩ := trodAll_cons r0
  obtain ⟨v2, vs2, d2, ds2, p2, q2, rfl, rfl, rfl, h2, r2⟩ := trodAll_cons r1
  obtain ⟨v3, vs3, d3, ds3, p3, q3, rfl, rfl, rfl, h3, r3⟩ := trodAll_cons r2
  obtain ⟨rfl, rfl, rfl⟩ := trodAll_nil r3
  obtain rfl : args = #[v0, v1, v2, v3] := by cases args; simp_all
  obtain ⟨rfl, rfl⟩ := trodVars_none hV
  obtain ⟨a0, rfl, rfl, rfl, w0⟩ := open_int Try.underlying22 (hval 0 22 v0 rfl rfl) h0
  obtain ⟨a1, rfl, rfl, rfl, w1⟩ := Go.ChangeMaps.open_string Try.underlying9 (hval 1 9 v1 rfl rfl) h1
  obtain ⟨a2, rfl, rfl, rfl, w2⟩ := Go.ChangeMaps.open_string Try.underlying9 (hval 2 9 v2 rfl rfl) h2
  obtain ⟨a3, rfl, rfl, rfl, w3⟩ := open_int Try.underlying3 (hval 3 3 v3 rfl rfl) h3
  clear hA0 hval0
  simp only [List.append_nil] at hW'
  refine (walk a0 a1 a2 a3 w0 w1 w2 w3 W).mono fun e W' ⟨he, hg⟩ => ?_
  subst he
  exact ⟨_, rfl, _, _, _, _, _, [], hW', (trodAll_cons_mk (shut_bool Try.underlying4 _) trodAll_mk0), (trodAll_cons_mk (shut_int Try.underlying22 w0) (trodAll_cons_mk (Go.ChangeMaps.shut_string Try.underlying9 w1) (trodAll_cons_mk (Go.ChangeMaps.shut_string Try.underlying9 w2) (trodAll_cons_mk (shut_int Try.underlying3 w3) trodAll_mk0)))), rfl, hg.frame _, fun h => by cases h⟩

theorem over : Rows.octetsBackRow.holds Try.pinned (OpenSpec.ofChange Rows.octetsBackSpec) :=
  OpenClaim.holds_of_wide 6 Try.f6 rfl rfl rfl rfl rfl rfl rfl ⟨rfl, rfl, rfl, rfl, rfl⟩ rfl rfl rfl rfl rfl (by kernel_rfl) Try.func6 (by kernel_rfl)
    (of_decide_eq_true (by kernel_rfl)) (by unfold Func.isWrapper; first | (rw [if_pos (by decide +kernel)]; kernel_rfl) | (rw [if_neg (by decide +kernel)]; exact ⟨rfl, rfl⟩))
    (fun os started H enc _ => lifted os started H enc)

theorem proved : Rows.OctetsBackSaid :=
  over

end Go.Proofs.Ytldipjlepofdgaa.octetsBack
