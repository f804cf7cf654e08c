/- The reference's Cut, Pieces, Zeros, Pad, Trim. -/
import Derived.Test.YtlcicpdnakmdnaaOct3
namespace Go.Proofs.Ytlcicpdnakmdnaa
open Go.RowKit
namespace RefOct

theorem one_ext (s : ByteArray) (j : Nat) (h : j < s.size) : (s.extract j (j + 1)).data.toList = [s[j]] := by
  rw [ext_list, Nat.add_sub_cancel_left, List.drop_eq_getElem_cons (show j < s.data.toList.length from h)]
  rfl
theorem snoc_ext (O s : ByteArray) (a k j : Nat) (hO : O.data.toList = (s.data.toList.drop a).take k) (hj : j = a + k) (h : j < s.size) : (O ++ s.extract j (j + 1)).data.toList = (s.data.toList.drop a).take (k + 1) := by
  subst hj
  rw [app_list, hO, one_ext s _ h, List.take_succ_eq_append_getElem (by simp; have h9 : s.size = s.data.toList.length := rfl; omega)]
  simp
  rfl



set_option maxHeartbeats 400000 in
theorem zeros_yes (n : Nat) (h1 : 1 ≤ n) (h2 : n ≤ 65552) : Mak 43 #[.int .i64 (n : Int)] (.string (strOfNums (List.replicate n 0))) := by
  intro w
  have hmk : ∀ w : World, (Instr.makeSlice 52 (.int .i64 (n : Int)) (.int .i64 (n : Int))).run Try.prog w = .ok (.slice (some ⟨w.heap.size, 0, none⟩) n n) (w.alloc (.cells (madeCells #[.int .u8 0] n) 5)) := fun w =>
    run_make_row' (P := Try.prog) 52 5 (.int .u8 0) 1 Try.underlying52 info5 rfl .i64 .i64 n (by omega) (by omega) w
  have g := run_convert_bytes_arg (P := Try.prog) (w.alloc (.cells (madeCells #[.int .u8 0] n) 5)) 52 5 Try.underlying52 Try.underlying5 w.heap.size 0 n n (List.replicate n 0) (by simp) (fun i hi => by
        rw [Nat.zero_add, (World.rowIs_made w (.int .u8 0) n 5).cell hi]; simp [hi]) 9 Try.underlying9
  go_enter Try.func43, Try.ntmps43
  go_wp2
  go_ret
  exact ⟨rfl, (Below.refl _ _).alloc (Nat.le_refl _) _⟩

set_option maxHeartbeats 400000 in
theorem zeros_no (n : Int) (h : n < 1 ∨ 65552 < n) : Ret 43 #[.int .i64 n] (.string ⟨#[]⟩) := by
  intro w
  rcases h with h | h
  · go_enter Try.func43, Try.ntmps43
    go_wp2
    go_ret
    exact ⟨rfl, rfl⟩
  · have h' : ¬ n < 1 := by omega
    go_enter Try.func43, Try.ntmps43
    go_wp2
    go_ret
    exact ⟨rfl, rfl⟩

theorem zeros_app (s : ByteArray) (n : Nat) : s ++ strOfNums (List.replicate n 0) = bs (s.data.toList ++ List.replicate n 0) := by
  apply ba_ext
  rw [app_list, show (strOfNums (List.replicate n 0)).data.toList = List.replicate n 0 from by rw [nums_list]; simp, list_bs]


set_option maxHeartbeats 1000000 in
theorem trim_ret (s : ByteArray) (hm : s.size ≤ 9223372036854775807) (X : ByteArray) (hX : X = bs (Oct.trimL s.data.toList)) : Ret 40 #[.string s] (.string X) := by
  intro w
  have HX := Lib.hid hX
  clear hX
  go_enter Try.func40, Try.ntmps40
  go_wp2
  go_loop [0] (fun v => ∃ (R : ByteArray), v = .string R ∧ R.size ≤ s.size ∧ Hid (X = bs (Oct.trimL R.data.toList))) (fun v => Oct.strLen v)
  case atStart => exact ⟨s, rfl, Nat.le_refl _, HX⟩
  case round =>
    obtain ⟨R, rfl, hR, HR⟩ := hrel
    by_cases hlt : 0 < R.size
    · have hl : R.data.toList = R[0] :: R.data.toList.drop 1 := by
        exact List.drop_eq_getElem_cons (l := R.data.toList) (i := 0) hlt
      have he : (R.extract 1 R.size).data.toList = R.data.toList.drop 1 := by
        rw [ext_list, List.take_of_length_le (by simp)]
      by_cases h0 : R[0].toNat = 0
      · have hb : ((R[0].toNat : Int) == 0) = true := by rw [h0]; rfl
        have hz : R[0] = 0 := UInt8.toNat_inj.1 h0
        have hX2 : X = bs (Oct.trimL (R.extract 1 R.size).data.toList) := by
          rw [HR.out, hl, hz, he]; rfl
        have hsz : (R.extract 1 R.size).size = R.size - 1 := by simp
        have Hl := Lib.hid hl
        clear hl
        have He := Lib.hid he
        clear he
        have H0 := Lib.hid h0
        clear h0
        have Hz := Lib.hid hz
        clear hz
        have HX2 := Lib.hid hX2
        clear hX2
        have Hsz := Lib.hid hsz
        clear hsz
        go_wp2_with fail
        go_round
        case rel => exact ⟨_, rfl, by rw [Hsz.out]; omega, HX2⟩
        case measure => simp only [Oct.strLen]; rw [Hsz.out]; omega
      · have hb : ((R[0].toNat : Int) == 0) = false := by rw [beq_eq_false_iff_ne]; omega
        have hX2 : X = R := by
          rw [HR.out, Oct.trimL_at _ 0 (fun i hi => absurd hi (Nat.not_lt_zero i)) R[0] (by rw [hl]; rfl) (fun h => h0 (by rw [h]; rfl))]
          exact bs_list R
        subst hX2
        have Hl := Lib.hid hl
        clear hl
        have He := Lib.hid he
        clear he
        go_wp2_with fail
        go_ret
        exact ⟨rfl, rfl⟩
    · obtain rfl : R = ⟨#[]⟩ := ba_ext (List.eq_nil_of_length_eq_zero (by have h8 : R.size = R.data.toList.length := rfl; omega))
      have hX2 : X = ⟨#[]⟩ := by rw [HR.out]; rfl
      subst hX2
      go_wp2_with fail
      go_ret
      exact ⟨rfl, rfl⟩

end RefOct
end Go.Proofs.Ytlcicpdnakmdnaa
