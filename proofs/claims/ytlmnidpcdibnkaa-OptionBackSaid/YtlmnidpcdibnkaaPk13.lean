/- Joined texts. -/
-- PACK: YtlmnidpcdibnkaaDig
import Derived.Test.YtlmnidpcdibnkaaPk2
import Derived.Test.YtlmnidpcdibnkaaPk8
import Derived.Test.YtlmnidpcdibnkaaPk1
import Derived.Test.YtlmnidpcdibnkaaPk4
import Derived.Deep.QuietTactic
import Derived.BigQuiet
import Derived.Laws.BytesArg

/- The walks of package digits. -/
namespace Go.Proofs.Ytlmnidpcdibnkaa
open Go.RowKit
namespace Dig

set_option maxRecDepth 100000 in
set_option maxHeartbeats 400000 in
theorem value_any (c : Nat) (w : World) (hc : c < 256) :
    Calls Try.prog 66 #[.int .u8 (c : Int)] w fun e w' => e = .returned (.int .i64 (val c)) ∧ w = w' := by
  by_cases h1 : 48 ≤ c
  · by_cases h2 : c ≤ 57
    · have hv : val c = (c : Int) - 48 := by unfold val; rw [if_pos ⟨h1, h2⟩]
      go_enter Try.func66, Try.ntmps66
      go_wp2
      go_ret
      exact ⟨by rw [hv]; simp, rfl⟩
    · by_cases h3 : 65 ≤ c
      · by_cases h4 : c ≤ 70
        · have hv : val c = (c : Int) - 55 := by unfold val; rw [if_neg (by omega), if_pos ⟨h3, h4⟩]
          have HV := Lib.hid hv
          clear hv
          go_enter Try.func66, Try.ntmps66
          go_wp2
          go_ret
          refine ⟨?_, rfl⟩
          rw [HV.out]; simp; omega
        · have hv : val c = -1 := by unfold val; rw [if_neg (by omega), if_neg (by omega)]
          rw [hv]
          clear hv
          go_enter Try.func66, Try.ntmps66
          go_wp2
          go_ret
          exact ⟨by first | rfl | rw [hv], rfl⟩
      · have hv : val c = -1 := by unfold val; rw [if_neg (by omega), if_neg (by omega)]
        go_enter Try.func66, Try.ntmps66
        go_wp2
        go_ret
        exact ⟨by first | rfl | rw [hv], rfl⟩
  · have hv : val c = -1 := by unfold val; rw [if_neg (by omega), if_neg (by omega)]
    go_enter Try.func66, Try.ntmps66
    go_wp2
    go_ret
    exact ⟨by first | rfl | rw [hv], rfl⟩

set_option maxRecDepth 100000 in
set_option maxHeartbeats 1000000 in
theorem hex_any (s : ByteArray) (w : World) (hm : s.size ≤ 70368744177664) :
    Calls Try.prog 55 #[.string s] w fun e w' => e = .returned (.string (bs (hexL s.data.toList))) ∧ Below w.heap.size w w' := by
  have hmk : ∀ w : World, (Instr.makeSlice 88 (.int .i64 (2 * (s.size : Int))) (.int .i64 (2 * (s.size : Int)))).run Try.prog w = .ok (.slice (some ⟨w.heap.size, 0, none⟩) (2 * s.size) (2 * s.size)) (w.alloc (.cells (madeCells #[.int .u8 0] (2 * s.size)) 5)) := fun w => by
    have h := run_make_row' (P := Try.prog) 88 5 (.int .u8 0) 1 Try.underlying88 info5 rfl .i64 .i64 (2 * s.size) (by omega) (by omega) w
    rwa [show ((2 * s.size : Nat) : Int) = 2 * (s.size : Int) by omega] at h
  go_enter Try.func55, Try.ntmps55
  go_wp2
  go_loopw [11] (fun i wr => ∃ k : Nat, k ≤ s.size ∧ i = .int .i64 (k : Int) ∧ Hid (wr.rowIs w.heap.size 5 (2 * s.size) (fun j => if j < 2 * k then hexC s.data.toList j else .int .u8 0)) ∧ Hid (Below w.heap.size w wr)) (fun i _ => s.size - (intOf i).toNat)
  case atStart =>
    exact ⟨0, by omega, rfl, Lib.hid ((World.rowIs_made w (.int .u8 0) (2 * s.size) 5).congr fun j _ => by simp), Lib.hid ((Below.refl _ _).alloc (Nat.le_refl _) _)⟩
  case round =>
    obtain ⟨k, hk, rfl, HR, HB⟩ := hrel
    by_cases hlt : k < s.size
    · have hc1 := HR.out.cell (i := 2 * k) (by omega)
      have hf1 := HR.out.frozen (2 * k)
      have hc2 : ∀ v, (wr.setCell ⟨w.heap.size, 2 * k, none⟩ v).cell? ⟨w.heap.size, 2 * k + 1, none⟩ = some (.int .u8 0) := fun v => by
        have h := (HR.out.set (2 * k) v).cell (i := 2 * k + 1) (by omega)
        rw [if_neg (by omega), if_neg (by omega)] at h
        exact h
      have hf2 : ∀ v, (wr.setCell ⟨w.heap.size, 2 * k, none⟩ v).frozen? ⟨w.heap.size, 2 * k + 1, none⟩ = false := fun v => (HR.out.set _ v).frozen _
      have hb := s[k].toNat_lt
      go_wp2_with fail
      go_roundw
      case rel =>
        have hw1 := (HR.out.set (2 * k) (.int .u8 ((sign (s[k].toNat / 16)).toNat : Int))).set (2 * k + 1) (.int .u8 ((sign (s[k].toNat % 16)).toNat : Int))
        refine ⟨k + 1, by omega, by go_num, Lib.hid ?_, Lib.hid ((HB.out.setCell (p := ⟨w.heap.size, 2 * k, none⟩) (Nat.le_refl _) _).setCell (p := ⟨w.heap.size, 2 * k + 1, none⟩) (Nat.le_refl _) _)⟩
        rw [sign_at, sign_at]
        refine hw1.congr fun j hj => ?_
        by_cases h1 : j = 2 * k + 1
        · subst h1
          rw [if_pos rfl, if_pos (by omega)]
          unfold hexC
          rw [if_neg (by omega), show (2 * k + 1) / 2 = k from by omega, getD_at s k hlt]
        · by_cases h2 : j = 2 * k
          · subst h2
            rw [if_neg h1, if_pos rfl, if_pos (by omega)]
            unfold hexC
            rw [if_pos (by omega), show 2 * k / 2 = k from by omega, getD_at s k hlt]
          · rw [if_neg h1, if_neg h2]
            by_cases h3 : j < 2 * k
            · rw [if_pos h3, if_pos (by omega)]
            · rw [if_neg h3, if_neg (by omega)]
      case measure => simp [intOf]; omega
    · obtain rfl : k = s.size := by omega
      have hlen := hexL_len s.data.toList
      have g := run_convert_bytes_arg (P := Try.prog) wr 88 5 Try.underlying88 Try.underlying5 w.heap.size 0 (2 * s.size) (2 * s.size) ((hexL s.data.toList).map fun c => (c.toNat : Int)) (by rw [List.length_map, hlen]; rfl) (fun i hi => by
        rw [Nat.zero_add, HR.out.cell hi, if_pos hi, hexL_at s.data.toList i hi]) 9 Try.underlying9
      rw [nums_bytes] at g
      generalize hxx : bs (hexL s.data.toList) = x at *
      have HX := Lib.hid hxx
      clear hxx
      go_wp2_with fail
      go_ret
      rw [HX.out]
      exact ⟨rfl, HB.out⟩

set_option maxRecDepth 100000 in
theorem qval (c : Nat) (hc : c < 256) (h : Int) (hh : val c = h) (W : World) : Calls Try.prog 66 #[.int .u8 (c : Int)] W fun e w' => e = .returned (.int .i64 h) ∧ w' = W := by
  subst hh; exact (value_any c W hc).mono fun _ _ ⟨he, hw⟩ => ⟨he, hw.symm⟩

set_option maxRecDepth 100000 in
set_option maxHeartbeats 400000 in
theorem unhex_odd (s : ByteArray) (w : World) (hm : s.size ≤ 140737488355328) (h : s.size % 2 = 1) :
    Calls Try.prog 57 #[.string s] w fun e w' => e = .returned (.tuple #[.string ⟨#[]⟩, .bool false]) ∧ Since w w' := by
  have hb : ((s.size : Int) % 2 != 0) = true := by rw [bne_iff_ne]; omega
  clear h
  go_enter Try.func57, Try.ntmps57
  go_wp2
  go_ret2
  exact ⟨rfl, Since.refl w⟩

set_option maxRecDepth 100000 in
set_option maxHeartbeats 1000000 in
theorem unhex_even (s : ByteArray) (m : Nat) (w : World) (hm : s.size ≤ 140737488355328) (h : s.size = 2 * m) (X : ByteArray) (B : Bool) (hB : B = okN s.data.toList m) (hX : X = if okN s.data.toList m = true then strOfNums ((List.range m).map (pairV s.data.toList)) else ⟨#[]⟩) :
    Calls Try.prog 57 #[.string s] w fun e w' => e = .returned (.tuple #[.string X, .bool B]) ∧ Since w w' := by
  have HBB := Lib.hid hB
  have HXX := Lib.hid hX
  clear hB hX
  have hmk : ∀ w : World, (Instr.makeSlice 88 (.int .i64 (m : Int)) (.int .i64 (m : Int))).run Try.prog w = .ok (.slice (some ⟨w.heap.size, 0, none⟩) m m) (w.alloc (.cells (madeCells #[.int .u8 0] m) 5)) := fun w =>
    run_make_row' (P := Try.prog) 88 5 (.int .u8 0) 1 Try.underlying88 info5 rfl .i64 .i64 m (by omega) (by omega) w
  have hb : ((s.size : Int) % 2 != 0) = false := by rw [bne_eq_false_iff_eq]; omega
  have hd : (s.size : Int) / 2 = (m : Int) := by omega
  have hle : 2 * m ≤ s.size := by omega
  have HH := Lib.hid h
  clear h
  go_enter Try.func57, Try.ntmps57
  go_wp2
  clear hmk hb hd
  go_loopw [18] (fun i wr => ∃ k : Nat, k ≤ m ∧ i = .int .i64 (k : Int) ∧ Hid (okN s.data.toList k = true) ∧ Hid (wr.rowIs w.heap.size 5 m (fun j => if j < k then .int .u8 (pairV s.data.toList j) else .int .u8 0)) ∧ Hid (Since w wr)) (fun i _ => m - (intOf i).toNat)
  case atStart =>
    exact ⟨0, by omega, rfl, Lib.hid rfl, Lib.hid ((World.rowIs_made w (.int .u8 0) m 5).congr fun j _ => by simp), Lib.hid ((Since.refl w).alloc _)⟩
  case round =>
    obtain ⟨k, hk, rfl, HO, HR, HS⟩ := hrel
    by_cases hlt : k < m
    · have k1 : 2 * k < s.size := by omega
      have k2 : 2 * k + 1 < s.size := by omega
      have hs := okN_succ s.data.toList k
      have hp : pairV s.data.toList k = 16 * hi s.data.toList k + lo s.data.toList k := rfl
      obtain ⟨a, ha⟩ : ∃ a, s[2 * k].toNat = a := ⟨_, rfl⟩
      obtain ⟨b, hb⟩ : ∃ b, s[2 * k + 1].toNat = b := ⟨_, rfl⟩
      have ha2 : a < 256 := by rw [← ha]; exact s[2 * k].toNat_lt
      have hb2 : b < 256 := by rw [← hb]; exact s[2 * k + 1].toNat_lt
      have hva : val a = hi s.data.toList k := by unfold hi; rw [getD_at s _ k1, ha]
      have hvb : val b = lo s.data.toList k := by unfold lo; rw [getD_at s _ k2, hb]
      have va := val_lt a
      have vb := val_lt b
      rw [hva] at va
      rw [hvb] at vb
      have C1 := Lib.hid (fun W => qval a ha2 _ hva W)
      have C2 := Lib.hid (fun W => qval b hb2 _ hvb W)
      clear hva hvb
      generalize hi s.data.toList k = x at *
      generalize lo s.data.toList k = y at *
      have HSS := Lib.hid hs
      have HPP := Lib.hid hp
      clear hs hp
      have hc := HR.out.cell (i := k) hlt
      have hf := HR.out.frozen k
      have e1 : IntKind.i64.wrap (2 * (k : Int)) = 2 * (k : Int) := IntWalk.i64_in _ (by omega)
      have e2 : IntKind.i64.wrap (2 * (k : Int) + 1) = 2 * (k : Int) + 1 := IntWalk.i64_in _ (by omega)
      have n1 : (2 * (k : Int)).toNat = 2 * k := by omega
      have n2 : (2 * (k : Int) + 1).toNat = 2 * k + 1 := by omega
      have q1 : (0 : Int) ≤ 2 * (k : Int) := by omega
      have q2 : (0 : Int) ≤ 2 * (k : Int) + 1 := by omega
      have l1 : 2 * (k : Int) < (s.size : Int) := by omega
      have l2 : 2 * (k : Int) + 1 < (s.size : Int) := by omega
      go_wp2_with fail
      go_quiet (first | (go_at_call 66; with_reducible exact Calls.quiet_of_same (C1.out _)) | (go_at_call 66; with_reducible exact Calls.quiet_of_same (C2.out _)))
      clear e1 e2 n1 n2 q1 q2 l1 l2
      have hno : okN s.data.toList (k + 1) = false → okN s.data.toList m = false := fun h => by
        cases hc : okN s.data.toList m with
        | false => rfl
        | true => rw [okN_le _ _ _ hc (by omega)] at h; cases h
      have HNO := Lib.hid hno
      clear hno
      by_cases hx : 0 ≤ x
      · by_cases hy : 0 ≤ y
        · go_wp2_with fail
          go_roundw
          case rel =>
            refine ⟨k + 1, by omega, by go_num, Lib.hid (by rw [HSS.out, HO.out]; simp [hx, hy]), Lib.hid ((HR.out.set k _).drew.congr fun j hj => ?_), Lib.hid (Below.setCell (w := wr.drewN _) (HS.out.step ⟨rfl, rfl, rfl, Nat.le_refl _, fun _ _ => rfl⟩) (p := ⟨w.heap.size, k, none⟩) (Nat.le_refl _) _)⟩
            by_cases h1 : j = k
            · subst h1; rw [if_pos rfl, if_pos (by omega), HPP.out]
            · by_cases h2 : j < k
              · simp [h1, h2, show j < k + 1 from by omega]
              · simp [h1, h2, show ¬ j < k + 1 from by omega]
          case measure => simp [intOf]; omega
        · have hf9 := HNO.out (by rw [HSS.out]; simp [hy])
          have HF := Lib.hid hf9
          clear hf9
          have hX0 : X = ⟨#[]⟩ := by rw [HXX.out, HF.out]; rfl
          have hB0 : B = false := by rw [HBB.out, HF.out]
          subst hX0 hB0
          go_wp2_with fail
          go_ret2
          exact ⟨rfl, Since.step (w' := wr.drewN _) HS.out ⟨rfl, rfl, rfl, Nat.le_refl _, fun _ _ => rfl⟩⟩
      · have hf9 := HNO.out (by rw [HSS.out]; simp [hx])
        have HF := Lib.hid hf9
        clear hf9
        have hX0 : X = ⟨#[]⟩ := by rw [HXX.out, HF.out]; rfl
        have hB0 : B = false := by rw [HBB.out, HF.out]
        subst hX0 hB0
        go_wp2_with fail
        go_ret2
        exact ⟨rfl, Since.step (w' := wr.drewN _) HS.out ⟨rfl, rfl, rfl, Nat.le_refl _, fun _ _ => rfl⟩⟩
    · obtain rfl : k = m := by omega
      have hB0 : B = true := by rw [HBB.out, HO.out]
      have hX0 : X = strOfNums ((List.range k).map (pairV s.data.toList)) := by rw [HXX.out, HO.out]; rfl
      subst hB0
      have g := run_convert_bytes_arg (P := Try.prog) wr 88 5 Try.underlying88 Try.underlying5 w.heap.size 0 k k ((List.range k).map (pairV s.data.toList)) (by simp) (fun i hi => by
        rw [Nat.zero_add, HR.out.cell hi, if_pos hi]; simp [List.getD, hi]) 9 Try.underlying9
      rw [← hX0] at g
      clear hX0
      go_wp2_with fail
      go_ret2
      exact ⟨rfl, HS.out⟩

end Dig
end Go.Proofs.Ytlmnidpcdibnkaa
