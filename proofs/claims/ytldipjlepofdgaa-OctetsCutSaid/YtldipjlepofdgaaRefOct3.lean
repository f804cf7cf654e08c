/- The reference's Cut, Pieces, Zeros, Pad, Trim. -/
import Derived.Test.YtldipjlepofdgaaOct3
import Derived.Test.YtldipjlepofdgaaOctAwake
namespace Go.Proofs.Ytldipjlepofdgaa
open Go.RowKit
namespace RefOct

theorem one_ext (s : ByteArray) (j : Nat) (h : j < s.size) : (s.extract j (j + 1)).data.toList = [s[j]] := by
  rw [ext_list, Nat.add_sub_cancel_left, List.drop_eq_getElem_cons (show j < s.data.toList.length from h)]
  rfl
theorem snoc_ext (O s : ByteArray) (a k j : Nat) (hO : O.data.toList = (s.data.toList.drop a).take k) (hj : j = a + k) (h : j < s.size) : (O ++ s.extract j (j + 1)).data.toList = (s.data.toList.drop a).take (k + 1) := by
  subst hj
  rw [app_list, hO, one_ext s _ h, List.take_succ_eq_append_getElem (by simp; have h9 : s.size = s.data.toList.length := rfl; omega)]
  simp
  rfl

set_option maxHeartbeats 1000000 in
theorem cut_no (s : ByteArray) (a n : Int) (w : World) (h : a < 0 ∨ n < 1) :
    Calls Try.prog 18 #[.string s, .int .i64 a, .int .i64 n] w fun e w' => e = .returned (.string ⟨#[]⟩) ∧ w = w' := by
  by_cases h1 : a < 0
  · go_enter Try.func18, Try.ntmps18
    go_wp2
    go_ret
    exact ⟨rfl, rfl⟩
  · have h2 : n < 1 := by omega
    clear h
    go_enter Try.func18, Try.ntmps18
    go_wp2
    go_ret
    exact ⟨rfl, rfl⟩

set_option maxHeartbeats 1000000 in
theorem cut_yes (s : ByteArray) (a n : Nat) (w : World) (hm : s.size ≤ 140737488355328) (ha : a ≤ 9223372036854775807) (hn : n ≤ 9223372036854775807) (h1 : 1 ≤ n) (X : ByteArray) (hX : X = bs ((s.data.toList.drop a).take n)) :
    Calls Try.prog 18 #[.string s, .int .i64 (a : Int), .int .i64 (n : Int)] w fun e w' => e = .returned (.string X) ∧ w = w' := by
  have HX := Lib.hid hX
  clear hX
  go_enter Try.func18, Try.ntmps18
  go_wp2
  go_loop [7, 8] (fun o i => ∃ (j k : Nat) (O : ByteArray), i = .int .i64 (j : Int) ∧ o = .string O ∧ Hid (j = a + k) ∧ k ≤ n ∧ j ≤ 9223372036854775807 ∧ (a ≤ s.size → j ≤ s.size) ∧ (s.size < a → k = 0) ∧ Hid (O.data.toList = (s.data.toList.drop a).take k) ∧ O.size ≤ k ∧ (a ≤ s.size → k ≤ O.size)) (fun _ i => s.size - (intOf i).toNat)
  case atStart => exact ⟨a, 0, ⟨#[]⟩, rfl, rfl, Lib.hid rfl, by omega, ha, fun h => h, fun _ => rfl, Lib.hid rfl, Nat.le_refl _, fun _ => Nat.le_refl _⟩
  case round =>
    obtain ⟨j, k, O, rfl, rfl, HJ, hk, hj9, hj, hk0, HO, ho1, ho2⟩ := hrel
    by_cases hlt : j < s.size
    · have hao : a ≤ s.size := by have := HJ.out; omega
      have hok := ho2 hao
      by_cases hkn : O.size < n
      · have hsn := snoc_ext O s a k j HO.out HJ.out hlt
        have hlen : (O ++ s.extract j (j + 1)).size = O.size + 1 := by
          show (O ++ s.extract j (j + 1)).data.toList.length = _
          rw [app_list, one_ext s j hlt, List.length_append]; rfl
        have hsz : ¬ 9223372036854775807 < O.size + (s.extract j (j + 1)).size := by simp; omega
        clear hj hk0 ho2
        have Hsn := Lib.hid hsn
        clear hsn
        have Hlen := Lib.hid hlen
        clear hlen
        go_wp2_with fail
        go_round
        case rel => exact ⟨j + 1, k + 1, _, by go_num, rfl, Lib.hid (by have := HJ.out; omega), by omega, by omega, fun _ => by omega, fun h => by omega, Hsn, by rw [Hlen.out]; omega, fun _ => by rw [Hlen.out]; omega⟩
        case measure => simp [intOf]; omega
      · have hX2 : X = O := by
          rw [HX.out]
          apply ba_ext
          rw [HO.out, list_bs, show k = n from by omega]
        subst hX2
        clear hj hk0 ho2
        go_wp2_with fail
        go_ret
        exact ⟨rfl, rfl⟩
    · have hX2 : X = O := by
        rw [HX.out]
        apply ba_ext
        rw [HO.out, list_bs]
        have h9 : s.size = s.data.toList.length := rfl
        have := HJ.out
        rw [List.take_of_length_le (by simp; omega), List.take_of_length_le (by
          simp
          by_cases h : a ≤ s.size
          · have := hj h; omega
          · omega)]
      subst hX2
      clear hj hk0 ho2
      go_wp2_with fail
      go_ret
      exact ⟨rfl, rfl⟩

set_option maxHeartbeats 2000000 in
theorem pieces_mak (s : ByteArray) (n : Nat) (h1 : 1 ≤ n) (hn : n ≤ 9223372036854775807) (hm : s.size ≤ 1099511627776) (L : List ByteArray) (hL : L = Oct.pcs s.data.toList n ((s.size + n - 1) / n)) : MakS 21 #[.string s, .int .i64 (n : Int)] L := by
  intro w
  have HL := Lib.hid hL
  clear hL
  have HM := Lib.hid hm
  go_enter Try.func21, Try.ntmps21
  go_wp2
  go_loopw [5, 6, 7] (fun v o i wr => ∃ (j k r : Nat) (O : ByteArray), i = .int .i64 (j : Int) ∧ j ≤ s.size ∧ k ≤ j ∧ Hid (j = n * k + r) ∧ r < n ∧ o = .string O ∧ O.size ≤ r ∧ r ≤ O.size ∧ Hid (O.data.toList = (s.data.toList.drop (n * k)).take r) ∧ Hid (wr.ownsRow w.heap.size 9 1 v k ((Oct.pcs s.data.toList n k).map Value.string)) ∧ Hid (Since w wr)) (fun _ _ i _ => s.size - (intOf i).toNat)
  case atStart => exact ⟨0, 0, 0, ⟨#[]⟩, rfl, by omega, by omega, Lib.hid (by simp), by omega, rfl, Nat.le_refl _, by omega, Lib.hid rfl, Lib.hid (World.ownsRow_nil _ _ _ _), Lib.hid (Since.refl w)⟩
  case round =>
    obtain ⟨j, k, r, O, rfl, hj, hk, HJ, hr, rfl, ho1, ho2, HOL, HO, HS⟩ := hrel
    by_cases hlt : j < s.size
    · have hsn := snoc_ext O s (n * k) r j HOL.out HJ.out hlt
      have hsz : ¬ 9223372036854775807 < O.size + (s.extract j (j + 1)).size := by simp; omega
      have hlen : (O ++ s.extract j (j + 1)).size = O.size + 1 := by
        show (O ++ s.extract j (j + 1)).data.toList.length = _
        rw [app_list, one_ext s j hlt, List.length_append]; rfl
      have Hsn := Lib.hid hsn
      clear hsn
      have Hlen := Lib.hid hlen
      clear hlen
      have hmin : min (j + 1) s.size - j = 1 := by omega
      by_cases hfull : r + 1 = n
      · have hb : ((O.size : Int) + 1 == (n : Int)) = true := by rw [beq_iff_eq]; omega
        have hpc : O ++ s.extract j (j + 1) = Oct.pc s.data.toList n k := by
          apply ba_ext
          rw [Hsn.out, hfull]; rfl
        have hj2 : j + 1 = n * (k + 1) + 0 := by have := HJ.out; rw [Nat.mul_succ]; omega
        have Hpc := Lib.hid hpc
        clear hpc
        have Hfull := Lib.hid hfull
        clear hfull
        have Hj2 := Lib.hid hj2
        clear hj2
        go_wp2_with (at_builtin; refine app_one elemS rfl _ _ rfl w wr _ k _ (by rfl) HO.out HS.out _ (by rfl) rfl (by omega) (by decide) ?_)
        intro v' w2 hO2 hS2
        have HO2 := Lib.hid hO2
        clear hO2
        have HS2 := Lib.hid hS2
        clear hS2
        go_wp2_with fail
        go_roundw
        case rel => exact ⟨j + 1, k + 1, 0, ⟨#[]⟩, by go_num, by omega, by omega, Hj2, by omega, rfl, Nat.le_refl _, by omega, Lib.hid rfl, Lib.hid (by rw [Oct.pcs_succ, List.map_append, ← Hpc.out]; exact HO2.out), HS2⟩
        case measure => simp [intOf]; omega
      · have hb : ((O.size : Int) + 1 == (n : Int)) = false := by rw [beq_eq_false_iff_ne]; omega
        have hj2 : j + 1 = n * k + (r + 1) := by have := HJ.out; omega
        have Hj2 := Lib.hid hj2
        clear hj2
        go_wp2_with fail
        go_roundw
        case rel => exact ⟨j + 1, k, r + 1, _, by go_num, by omega, by omega, Hj2, by omega, rfl, by rw [Hlen.out]; omega, by rw [Hlen.out]; omega, Hsn, HO, HS⟩
        case measure => simp [intOf]; omega
    · obtain rfl : j = s.size := by omega
      have h9 : s.size = s.data.toList.length := rfl
      by_cases h0 : r = 0
      · subst h0
        obtain rfl : O = ⟨#[]⟩ := ba_ext (List.eq_nil_of_length_eq_zero (by have h8 : O.size = O.data.toList.length := rfl; omega))
        have hL2 : L = Oct.pcs s.data.toList n k := by
          rw [HL.out, HJ.out, Nat.add_zero]
          congr 1
          rw [Nat.div_eq_of_lt_le]
          · rw [Nat.mul_comm]; omega
          · rw [Nat.mul_comm (k + 1), Nat.mul_succ]; omega
        subst hL2
        clear h9
        go_wp2_with fail
        go_ret
        exact ⟨_, rfl, by have h7 := HO.out; unfold Strs; rw [Oct.pcs_len]; exact h7, HS.out⟩
      · have hne := some_bytes O (by omega)
        have hpc : O = Oct.pc s.data.toList n k := by
          apply ba_ext
          show _ = (s.data.toList.drop (n * k)).take n
          have := HJ.out
          rw [HOL.out, List.take_of_length_le (by simp; omega), List.take_of_length_le (by simp; omega)]
        have hL2 : L = Oct.pcs s.data.toList n k ++ [O] := by
          have := HJ.out
          rw [HL.out, Oct.ceil_last s.size n k h1 (by omega) (by omega), Oct.pcs_succ, ← hpc]
        subst hL2
        have Hpc := Lib.hid hpc
        clear hpc
        have H9 := Lib.hid h9
        clear h9
        go_wp2_with (at_builtin; refine app_one elemS rfl _ _ rfl w wr _ k _ (by rfl) HO.out HS.out _ (by rfl) rfl (by omega) (by decide) ?_)
        intro v' w2 hO2 hS2
        have HO2 := Lib.hid hO2
        clear hO2
        have HS2 := Lib.hid hS2
        clear hS2
        go_wp2_with fail
        go_ret
        exact ⟨_, rfl, by have h7 := HO2.out; unfold Strs; rw [List.map_append, List.length_append, Oct.pcs_len]; exact h7, HS2.out⟩

set_option maxHeartbeats 400000 in
theorem pieces_no (s : ByteArray) (n : Int) (h1 : n < 1) : MakS 21 #[.string s, .int .i64 n] [] := by
  intro w
  go_enter Try.func21, Try.ntmps21
  go_wp2
  go_ret
  exact ⟨_, rfl, World.ownsRow_nil _ _ _ _, Since.refl w⟩

set_option maxHeartbeats 400000 in
theorem zeros_yes (n : Nat) (h1 : 1 ≤ n) (h2 : n ≤ 65552) : Mak 23 #[.int .i64 (n : Int)] (.string (strOfNums (List.replicate n 0))) := by
  intro w
  have hmk : ∀ w : World, (Instr.makeSlice 59 (.int .i64 (n : Int)) (.int .i64 (n : Int))).run Try.prog w = .ok (.slice (some ⟨w.heap.size, 0, none⟩) n n) (w.alloc (.cells (madeCells #[.int .u8 0] n) 5)) := fun w =>
    run_make_row' (P := Try.prog) 59 5 (.int .u8 0) 1 Try.underlying59 info5 rfl .i64 .i64 n (by omega) (by omega) w
  have g := run_convert_bytes_arg (P := Try.prog) (w.alloc (.cells (madeCells #[.int .u8 0] n) 5)) 59 5 Try.underlying59 Try.underlying5 w.heap.size 0 n n (List.replicate n 0) (by simp) (fun i hi => by
        rw [Nat.zero_add, (World.rowIs_made w (.int .u8 0) n 5).cell hi]; simp [hi]) 9 Try.underlying9
  go_enter Try.func23, Try.ntmps23
  go_wp2
  go_ret
  exact ⟨rfl, (Below.refl _ _).alloc (Nat.le_refl _) _⟩

set_option maxHeartbeats 400000 in
theorem zeros_no (n : Int) (h : n < 1 ∨ 65552 < n) : Ret 23 #[.int .i64 n] (.string ⟨#[]⟩) := by
  intro w
  rcases h with h | h
  · go_enter Try.func23, Try.ntmps23
    go_wp2
    go_ret
    exact ⟨rfl, rfl⟩
  · have h' : ¬ n < 1 := by omega
    go_enter Try.func23, Try.ntmps23
    go_wp2
    go_ret
    exact ⟨rfl, rfl⟩

theorem zeros_app (s : ByteArray) (n : Nat) : s ++ strOfNums (List.replicate n 0) = bs (s.data.toList ++ List.replicate n 0) := by
  apply ba_ext
  rw [app_list, Oct.zeros_list, list_bs]

set_option maxHeartbeats 400000 in
theorem pad_no (s : ByteArray) (n : Int) (h : n < 1 ∨ 65535 < n) : Ret 25 #[.string s, .int .i64 n] (.string s) := by
  intro w
  rcases h with h | h
  · go_enter Try.func25, Try.ntmps25
    go_wp2
    go_ret
    exact ⟨rfl, rfl⟩
  · have h' : ¬ n < 1 := by omega
    go_enter Try.func25, Try.ntmps25
    go_wp2
    go_ret
    exact ⟨rfl, rfl⟩

set_option maxHeartbeats 1000000 in
theorem pad_yes (s : ByteArray) (n : Nat) (hm : s.size ≤ 1099511627776) (h1 : 1 ≤ n) (h2 : n ≤ 65535) (m : Nat) (hm1 : (s.size + m) % n = 0) (hm2 : ∀ k, k < m → (s.size + k) % n ≠ 0) (hm3 : m ≤ 65535) :
    Mak 25 #[.string s, .int .i64 (n : Int)] (.string (bs (s.data.toList ++ List.replicate m 0))) := by
  intro w
  have H1 := Lib.hid hm1
  have H2 := Lib.hid hm2
  clear hm1 hm2
  have HS := Lib.hid (Since.refl w)
  have hn1 : (1 : Int) ≤ (n : Int) := by omega
  go_enter Try.func25, Try.ntmps25
  go_wp2
  go_loop [5] (fun i => ∃ k : Nat, k ≤ m ∧ i = .int .i64 (k : Int)) (fun i => m - (intOf i).toNat)
  case atStart => exact ⟨0, by omega, rfl⟩
  case round =>
    obtain ⟨k, hk, rfl⟩ := hrel
    by_cases hlt : k < m
    · have hb : (((s.size : Int) + (k : Int)) % (n : Int) != 0) = true := by
        have h3 : ((s.size : Int) + (k : Int)) % (n : Int) = (((s.size + k) % n : Nat) : Int) := by simp
        rw [h3, bne_iff_ne]
        have := H2.out k hlt
        omega
      go_wp2_with fail
      go_round
      case rel => exact ⟨k + 1, by omega, by go_num⟩
      case measure => simp [intOf]; omega
    · obtain rfl : k = m := by omega
      have hb : (((s.size : Int) + (k : Int)) % (n : Int) != 0) = false := by
        have h3 : ((s.size : Int) + (k : Int)) % (n : Int) = (((s.size + k) % n : Nat) : Int) := by simp
        rw [h3, H1.out]; rfl
      by_cases h0 : k = 0
      · subst h0
        have hb0 : ((s.size : Int) % (n : Int) != 0) = false := by simpa using hb
        go_wp2_with fail
        refine (zeros_no 0 (Or.inl (by decide))).calls ?_
        go_wp2_with fail
        go_ret
        exact ⟨congrArg (fun x => Ending.returned (.string x)) (ba_ext (by rw [app_list, list_bs]; simp)), HS.out⟩
      · go_wp2_with fail
        refine (zeros_yes k (by omega) (by omega)).calls HS.out ?_
        intro w1 h1
        have H1 := Lib.hid h1
        clear h1
        have hsz : ¬ 9223372036854775807 < s.size + (strOfNums (List.replicate k 0)).size := by rw [strOfNums_size]; simp; omega
        go_wp2_with fail
        go_ret
        rw [zeros_app]
        exact ⟨rfl, H1.out⟩

set_option maxHeartbeats 1000000 in
theorem trim_ret (s : ByteArray) (hm : s.size ≤ 9223372036854775807) (X : ByteArray) (hX : X = bs (Oct.trimL s.data.toList)) : Ret 27 #[.string s] (.string X) := by
  intro w
  have HX := Lib.hid hX
  clear hX
  go_enter Try.func27, Try.ntmps27
  go_wp2
  go_loop [0] (fun v => ∃ (R : ByteArray), v = .string R ∧ R.size ≤ s.size ∧ Hid (X = bs (Oct.trimL R.data.toList))) (fun v => Oct.strLen v)
  case atStart => exact ⟨s, rfl, Nat.le_refl _, HX⟩
  case round =>
    obtain ⟨R, rfl, hR, HR⟩ := hrel
    by_cases hlt : 0 < R.size
    · have hl : R.data.toList = R[0] :: R.data.toList.drop 1 := by
        exact List.drop_eq_getElem_cons (l := R.data.toList) (i := 0) hlt
      have he : (R.extract 1 R.size).data.toList = R.data.toList.drop 1 := by
        rw [ext_list, List.take_of_length_le (by simp)]
      by_cases h0 : R[0].toNat = 0
      · have hb : ((R[0].toNat : Int) == 0) = true := by rw [h0]; rfl
        have hz : R[0] = 0 := UInt8.toNat_inj.1 h0
        have hX2 : X = bs (Oct.trimL (R.extract 1 R.size).data.toList) := by
          rw [HR.out, hl, hz, he]; rfl
        have hsz : (R.extract 1 R.size).size = R.size - 1 := by simp
        have Hl := Lib.hid hl
        clear hl
        have He := Lib.hid he
        clear he
        have H0 := Lib.hid h0
        clear h0
        have Hz := Lib.hid hz
        clear hz
        have HX2 := Lib.hid hX2
        clear hX2
        have Hsz := Lib.hid hsz
        clear hsz
        go_wp2_with fail
        go_round
        case rel => exact ⟨_, rfl, by rw [Hsz.out]; omega, HX2⟩
        case measure => simp only [Oct.strLen]; rw [Hsz.out]; omega
      · have hb : ((R[0].toNat : Int) == 0) = false := by rw [beq_eq_false_iff_ne]; omega
        have hX2 : X = R := by
          rw [HR.out, Oct.trimL_at _ 0 (fun i hi => absurd hi (Nat.not_lt_zero i)) R[0] (by rw [hl]; rfl) (fun h => h0 (by rw [h]; rfl))]
          exact bs_list R
        subst hX2
        have Hl := Lib.hid hl
        clear hl
        have He := Lib.hid he
        clear he
        go_wp2_with fail
        go_ret
        exact ⟨rfl, rfl⟩
    · obtain rfl : R = ⟨#[]⟩ := ba_ext (List.eq_nil_of_length_eq_zero (by have h8 : R.size = R.data.toList.length := rfl; omega))
      have hX2 : X = ⟨#[]⟩ := by rw [HR.out]; rfl
      subst hX2
      go_wp2_with fail
      go_ret
      exact ⟨rfl, rfl⟩

end RefOct
end Go.Proofs.Ytldipjlepofdgaa
