/- Joined texts. -/
-- PACK: YtddlaafpianjbaaGreatDoorDig YtddlaafpianjbaaGreatDoorDig2 YtddlaafpianjbaaGreatDoorDigB YtddlaafpianjbaaGreatDoorNum YtddlaafpianjbaaGreatDoorUnnum YtddlaafpianjbaaGreatDoorRefNum YtddlaafpianjbaaGreatDoorRefNum2 YtddlaafpianjbaaGreatDoorRefOct2
import Derived.Test.YtddlaafpianjbaaGreatDoorBb3
import Derived.Test.YtddlaafpianjbaaGreatDoorBb17
import Derived.Test.YtddlaafpianjbaaGreatDoorBb2
import Derived.Deep.QuietTactic
import Derived.BigQuiet
import Derived.Laws.BytesArg
import Derived.Test.YtddlaafpianjbaaGreatDoorBb4
import Derived.Test.YtddlaafpianjbaaGreatDoorBb7

/- The walks of package digits. -/
namespace Go.Proofs.YtddlaafpianjbaaGreatDoor
open Go.RowKit
namespace Dig

set_option maxRecDepth 100000 in
set_option maxHeartbeats 400000 in
theorem value_any (c : Nat) (w : World) (hc : c < 256) :
    Calls Tryz.prog 200 #[.int .u8 (c : Int)] w fun e w' => e = .returned (.int .i64 (val c)) ∧ w = w' := by
  by_cases h1 : 48 ≤ c
  · by_cases h2 : c ≤ 57
    · have hv : val c = (c : Int) - 48 := by unfold val; rw [if_pos ⟨h1, h2⟩]
      go_enter Tryz.func200, Tryz.ntmps200
      go_wp2
      go_ret
      exact ⟨by rw [hv]; simp, rfl⟩
    · by_cases h3 : 65 ≤ c
      · by_cases h4 : c ≤ 70
        · have hv : val c = (c : Int) - 55 := by unfold val; rw [if_neg (by omega), if_pos ⟨h3, h4⟩]
          have HV := Lib.hid hv
          clear hv
          go_enter Tryz.func200, Tryz.ntmps200
          go_wp2
          go_ret
          refine ⟨?_, rfl⟩
          rw [HV.out]; simp; omega
        · have hv : val c = -1 := by unfold val; rw [if_neg (by omega), if_neg (by omega)]
          rw [hv]
          clear hv
          go_enter Tryz.func200, Tryz.ntmps200
          go_wp2
          go_ret
          exact ⟨by first | rfl | rw [hv], rfl⟩
      · have hv : val c = -1 := by unfold val; rw [if_neg (by omega), if_neg (by omega)]
        go_enter Tryz.func200, Tryz.ntmps200
        go_wp2
        go_ret
        exact ⟨by first | rfl | rw [hv], rfl⟩
  · have hv : val c = -1 := by unfold val; rw [if_neg (by omega), if_neg (by omega)]
    go_enter Tryz.func200, Tryz.ntmps200
    go_wp2
    go_ret
    exact ⟨by first | rfl | rw [hv], rfl⟩

set_option maxRecDepth 100000 in
set_option maxHeartbeats 1000000 in
theorem hex_any (s : ByteArray) (w : World) (hm : s.size ≤ 70368744177664) :
    Calls Tryz.prog 61 #[.string s] w fun e w' => e = .returned (.string (bs (hexL s.data.toList))) ∧ Below w.heap.size w w' := by
  have hmk : ∀ w : World, (Instr.makeSlice 114 (.int .i64 (2 * (s.size : Int))) (.int .i64 (2 * (s.size : Int)))).run Tryz.prog w = .ok (.slice (some ⟨w.heap.size, 0, none⟩) (2 * s.size) (2 * s.size)) (w.alloc (.cells (madeCells #[.int .u8 0] (2 * s.size)) 5)) := fun w => by
    have h := run_make_row' (P := Tryz.prog) 114 5 (.int .u8 0) 1 Tryz.underlying114 info5 rfl .i64 .i64 (2 * s.size) (by omega) (by omega) w
    rwa [show ((2 * s.size : Nat) : Int) = 2 * (s.size : Int) by omega] at h
  go_enter Tryz.func61, Tryz.ntmps61
  go_wp2
  go_loopw [11] (fun i wr => ∃ k : Nat, k ≤ s.size ∧ i = .int .i64 (k : Int) ∧ Hid (wr.rowIs w.heap.size 5 (2 * s.size) (fun j => if j < 2 * k then hexC s.data.toList j else .int .u8 0)) ∧ Hid (Below w.heap.size w wr)) (fun i _ => s.size - (intOf i).toNat)
  case atStart =>
    exact ⟨0, by omega, rfl, Lib.hid ((World.rowIs_made w (.int .u8 0) (2 * s.size) 5).congr fun j _ => by simp), Lib.hid ((Below.refl _ _).alloc (Nat.le_refl _) _)⟩
  case round =>
    obtain ⟨k, hk, rfl, HR, HB⟩ := hrel
    by_cases hlt : k < s.size
    · have hc1 := HR.out.cell (i := 2 * k) (by omega)
      have hf1 := HR.out.frozen (2 * k)
      have hc2 : ∀ v, (wr.setCell ⟨w.heap.size, 2 * k, none⟩ v).cell? ⟨w.heap.size, 2 * k + 1, none⟩ = some (.int .u8 0) := fun v => by
        have h := (HR.out.set (2 * k) v).cell (i := 2 * k + 1) (by omega)
        rw [if_neg (by omega), if_neg (by omega)] at h
        exact h
      have hf2 : ∀ v, (wr.setCell ⟨w.heap.size, 2 * k, none⟩ v).frozen? ⟨w.heap.size, 2 * k + 1, none⟩ = false := fun v => (HR.out.set _ v).frozen _
      have hb := s[k].toNat_lt
      go_wp2_with fail
      go_roundw
      case rel =>
        have hw1 := (HR.out.set (2 * k) (.int .u8 ((sign (s[k].toNat / 16)).toNat : Int))).set (2 * k + 1) (.int .u8 ((sign (s[k].toNat % 16)).toNat : Int))
        refine ⟨k + 1, by omega, by go_num, Lib.hid ?_, Lib.hid ((HB.out.setCell (p := ⟨w.heap.size, 2 * k, none⟩) (Nat.le_refl _) _).setCell (p := ⟨w.heap.size, 2 * k + 1, none⟩) (Nat.le_refl _) _)⟩
        rw [sign_at, sign_at]
        refine hw1.congr fun j hj => ?_
        by_cases h1 : j = 2 * k + 1
        · subst h1
          rw [if_pos rfl, if_pos (by omega)]
          unfold hexC
          rw [if_neg (by omega), show (2 * k + 1) / 2 = k from by omega, getD_at s k hlt]
        · by_cases h2 : j = 2 * k
          · subst h2
            rw [if_neg h1, if_pos rfl, if_pos (by omega)]
            unfold hexC
            rw [if_pos (by omega), show 2 * k / 2 = k from by omega, getD_at s k hlt]
          · rw [if_neg h1, if_neg h2]
            by_cases h3 : j < 2 * k
            · rw [if_pos h3, if_pos (by omega)]
            · rw [if_neg h3, if_neg (by omega)]
      case measure => simp [intOf]; omega
    · obtain rfl : k = s.size := by omega
      have hlen := hexL_len s.data.toList
      have g := run_convert_bytes_arg (P := Tryz.prog) wr 114 5 Tryz.underlying114 Tryz.underlying5 w.heap.size 0 (2 * s.size) (2 * s.size) ((hexL s.data.toList).map fun c => (c.toNat : Int)) (by rw [List.length_map, hlen]; rfl) (fun i hi => by
        rw [Nat.zero_add, HR.out.cell hi, if_pos hi, hexL_at s.data.toList i hi]) 9 Tryz.underlying9
      rw [nums_bytes] at g
      generalize hxx : bs (hexL s.data.toList) = x at *
      have HX := Lib.hid hxx
      clear hxx
      go_wp2_with fail
      go_ret
      rw [HX.out]
      exact ⟨rfl, HB.out⟩

set_option maxRecDepth 100000 in
theorem qval (c : Nat) (hc : c < 256) (h : Int) (hh : val c = h) (W : World) : Calls Tryz.prog 200 #[.int .u8 (c : Int)] W fun e w' => e = .returned (.int .i64 h) ∧ w' = W := by
  subst hh; exact (value_any c W hc).mono fun _ _ ⟨he, hw⟩ => ⟨he, hw.symm⟩

set_option maxRecDepth 100000 in
set_option maxHeartbeats 400000 in
theorem unhex_odd (s : ByteArray) (w : World) (hm : s.size ≤ 140737488355328) (h : s.size % 2 = 1) :
    Calls Tryz.prog 166 #[.string s] w fun e w' => e = .returned (.tuple #[.string ⟨#[]⟩, .bool false]) ∧ Since w w' := by
  have hb : ((s.size : Int) % 2 != 0) = true := by rw [bne_iff_ne]; omega
  clear h
  go_enter Tryz.func166, Tryz.ntmps166
  go_wp2
  go_ret2
  exact ⟨rfl, Since.refl w⟩

set_option maxRecDepth 100000 in
set_option maxHeartbeats 1000000 in
theorem unhex_even (s : ByteArray) (m : Nat) (w : World) (hm : s.size ≤ 140737488355328) (h : s.size = 2 * m) (X : ByteArray) (B : Bool) (hB : B = okN s.data.toList m) (hX : X = if okN s.data.toList m = true then strOfNums ((List.range m).map (pairV s.data.toList)) else ⟨#[]⟩) :
    Calls Tryz.prog 166 #[.string s] w fun e w' => e = .returned (.tuple #[.string X, .bool B]) ∧ Since w w' := by
  have HBB := Lib.hid hB
  have HXX := Lib.hid hX
  clear hB hX
  have hmk : ∀ w : World, (Instr.makeSlice 114 (.int .i64 (m : Int)) (.int .i64 (m : Int))).run Tryz.prog w = .ok (.slice (some ⟨w.heap.size, 0, none⟩) m m) (w.alloc (.cells (madeCells #[.int .u8 0] m) 5)) := fun w =>
    run_make_row' (P := Tryz.prog) 114 5 (.int .u8 0) 1 Tryz.underlying114 info5 rfl .i64 .i64 m (by omega) (by omega) w
  have hb : ((s.size : Int) % 2 != 0) = false := by rw [bne_eq_false_iff_eq]; omega
  have hd : (s.size : Int) / 2 = (m : Int) := by omega
  have hle : 2 * m ≤ s.size := by omega
  have HH := Lib.hid h
  clear h
  go_enter Tryz.func166, Tryz.ntmps166
  go_wp2
  clear hmk hb hd
  go_loopw [18] (fun i wr => ∃ k : Nat, k ≤ m ∧ i = .int .i64 (k : Int) ∧ Hid (okN s.data.toList k = true) ∧ Hid (wr.rowIs w.heap.size 5 m (fun j => if j < k then .int .u8 (pairV s.data.toList j) else .int .u8 0)) ∧ Hid (Since w wr)) (fun i _ => m - (intOf i).toNat)
  case atStart =>
    exact ⟨0, by omega, rfl, Lib.hid rfl, Lib.hid ((World.rowIs_made w (.int .u8 0) m 5).congr fun j _ => by simp), Lib.hid ((Since.refl w).alloc _)⟩
  case round =>
    obtain ⟨k, hk, rfl, HO, HR, HS⟩ := hrel
    by_cases hlt : k < m
    · have k1 : 2 * k < s.size := by omega
      have k2 : 2 * k + 1 < s.size := by omega
      have hs := okN_succ s.data.toList k
      have hp : pairV s.data.toList k = 16 * hi s.data.toList k + lo s.data.toList k := rfl
      obtain ⟨a, ha⟩ : ∃ a, s[2 * k].toNat = a := ⟨_, rfl⟩
      obtain ⟨b, hb⟩ : ∃ b, s[2 * k + 1].toNat = b := ⟨_, rfl⟩
      have ha2 : a < 256 := by rw [← ha]; exact s[2 * k].toNat_lt
      have hb2 : b < 256 := by rw [← hb]; exact s[2 * k + 1].toNat_lt
      have hva : val a = hi s.data.toList k := by unfold hi; rw [getD_at s _ k1, ha]
      have hvb : val b = lo s.data.toList k := by unfold lo; rw [getD_at s _ k2, hb]
      have va := val_lt a
      have vb := val_lt b
      rw [hva] at va
      rw [hvb] at vb
      have C1 := Lib.hid (fun W => qval a ha2 _ hva W)
      have C2 := Lib.hid (fun W => qval b hb2 _ hvb W)
      clear hva hvb
      generalize hi s.data.toList k = x at *
      generalize lo s.data.toList k = y at *
      have HSS := Lib.hid hs
      have HPP := Lib.hid hp
      clear hs hp
      have hc := HR.out.cell (i := k) hlt
      have hf := HR.out.frozen k
      have e1 : IntKind.i64.wrap (2 * (k : Int)) = 2 * (k : Int) := IntWalk.i64_in _ (by omega)
      have e2 : IntKind.i64.wrap (2 * (k : Int) + 1) = 2 * (k : Int) + 1 := IntWalk.i64_in _ (by omega)
      have n1 : (2 * (k : Int)).toNat = 2 * k := by omega
      have n2 : (2 * (k : Int) + 1).toNat = 2 * k + 1 := by omega
      have q1 : (0 : Int) ≤ 2 * (k : Int) := by omega
      have q2 : (0 : Int) ≤ 2 * (k : Int) + 1 := by omega
      have l1 : 2 * (k : Int) < (s.size : Int) := by omega
      have l2 : 2 * (k : Int) + 1 < (s.size : Int) := by omega
      go_wp2_with fail
      go_quiet (first | (go_at_call 200; with_reducible exact Calls.quiet_of_same (C1.out _)) | (go_at_call 200; with_reducible exact Calls.quiet_of_same (C2.out _)))
      clear e1 e2 n1 n2 q1 q2 l1 l2
      have hno : okN s.data.toList (k + 1) = false → okN s.data.toList m = false := fun h => by
        cases hc : okN s.data.toList m with
        | false => rfl
        | true => rw [okN_le _ _ _ hc (by omega)] at h; cases h
      have HNO := Lib.hid hno
      clear hno
      by_cases hx : 0 ≤ x
      · by_cases hy : 0 ≤ y
        · go_wp2_with fail
          go_roundw
          case rel =>
            refine ⟨k + 1, by omega, by go_num, Lib.hid (by rw [HSS.out, HO.out]; simp [hx, hy]), Lib.hid ((HR.out.set k _).drew.congr fun j hj => ?_), Lib.hid (Below.setCell (w := wr.drewN _) (HS.out.step ⟨rfl, rfl, rfl, Nat.le_refl _, fun _ _ => rfl⟩) (p := ⟨w.heap.size, k, none⟩) (Nat.le_refl _) _)⟩
            by_cases h1 : j = k
            · subst h1; rw [if_pos rfl, if_pos (by omega), HPP.out]
            · by_cases h2 : j < k
              · simp [h1, h2, show j < k + 1 from by omega]
              · simp [h1, h2, show ¬ j < k + 1 from by omega]
          case measure => simp [intOf]; omega
        · have hf9 := HNO.out (by rw [HSS.out]; simp [hy])
          have HF := Lib.hid hf9
          clear hf9
          have hX0 : X = ⟨#[]⟩ := by rw [HXX.out, HF.out]; rfl
          have hB0 : B = false := by rw [HBB.out, HF.out]
          subst hX0 hB0
          go_wp2_with fail
          go_ret2
          exact ⟨rfl, Since.step (w' := wr.drewN _) HS.out ⟨rfl, rfl, rfl, Nat.le_refl _, fun _ _ => rfl⟩⟩
      · have hf9 := HNO.out (by rw [HSS.out]; simp [hx])
        have HF := Lib.hid hf9
        clear hf9
        have hX0 : X = ⟨#[]⟩ := by rw [HXX.out, HF.out]; rfl
        have hB0 : B = false := by rw [HBB.out, HF.out]
        subst hX0 hB0
        go_wp2_with fail
        go_ret2
        exact ⟨rfl, Since.step (w' := wr.drewN _) HS.out ⟨rfl, rfl, rfl, Nat.le_refl _, fun _ _ => rfl⟩⟩
    · obtain rfl : k = m := by omega
      have hB0 : B = true := by rw [HBB.out, HO.out]
      have hX0 : X = strOfNums ((List.range k).map (pairV s.data.toList)) := by rw [HXX.out, HO.out]; rfl
      subst hB0
      have g := run_convert_bytes_arg (P := Tryz.prog) wr 114 5 Tryz.underlying114 Tryz.underlying5 w.heap.size 0 k k ((List.range k).map (pairV s.data.toList)) (by simp) (fun i hi => by
        rw [Nat.zero_add, HR.out.cell hi, if_pos hi]; simp [List.getD, hi]) 9 Tryz.underlying9
      rw [← hX0] at g
      clear hX0
      go_wp2_with fail
      go_ret2
      exact ⟨rfl, HS.out⟩

end Dig
end Go.Proofs.YtddlaafpianjbaaGreatDoor

/- The walks of package digits: decimal texts. -/
namespace Go.Proofs.YtddlaafpianjbaaGreatDoor
open Go.RowKit
namespace Dig

def numD (l : List UInt8) : Nat := l.foldl (fun n c => 10 * n + (c.toNat - 48)) 0
def isD (c : UInt8) : Bool := decide (48 ≤ c.toNat) && decide (c.toNat ≤ 57)
theorem numD_snoc (l : List UInt8) (c : UInt8) : numD (l ++ [c]) = 10 * numD l + (c.toNat - 48) := by unfold numD; rw [List.foldl_append]; rfl
theorem numD_aux (l : List UInt8) (h : l.all isD = true) : ∀ n : Nat, l.foldl (fun n c => 10 * n + (c.toNat - 48)) n < (n + 1) * 10 ^ l.length := by
  induction l with
  | nil => intro n; simp
  | cons c l ih =>
    intro n
    rw [List.all_cons, Bool.and_eq_true] at h
    have h1 := ih h.2 (10 * n + (c.toNat - 48))
    have hc : c.toNat ≤ 57 := by have := h.1; unfold isD at this; simp at this; exact this.2
    simp only [List.foldl_cons, List.length_cons]
    refine Nat.lt_of_lt_of_le h1 ?_
    rw [Nat.pow_succ, Nat.mul_comm (10 ^ l.length) 10, ← Nat.mul_assoc]
    exact Nat.mul_le_mul_right _ (by omega)
theorem numD_lt (l : List UInt8) (k : Nat) (h : l.all isD = true) (hk : l.length ≤ k) : numD l < 10 ^ k := by
  have h1 := numD_aux l h 0
  rw [Nat.zero_add, Nat.one_mul] at h1
  exact Nat.lt_of_lt_of_le h1 (Nat.pow_le_pow_right (by decide) hk)
theorem take_snoc (s : ByteArray) (k : Nat) (h : k < s.size) : s.data.toList.take (k + 1) = s.data.toList.take k ++ [s[k]] := by
  rw [List.take_succ_eq_append_getElem (by simpa using h)]; rfl
theorem all_take (l : List UInt8) (k : Nat) (h : l.all isD = true) : (l.take k).all isD = true := by
  rw [List.all_eq_true] at *
  exact fun x hx => h x (List.mem_of_mem_take hx)

set_option maxRecDepth 100000 in
set_option maxHeartbeats 400000 in
theorem undec_out (s : ByteArray) (w : World) (h : s.size < 1 ∨ 18 < s.size) (hm : s.size ≤ 9223372036854775807) :
    Calls Tryz.prog 198 #[.string s] w fun e w' => e = .returned (.tuple #[.int .i64 0, .bool false]) ∧ w = w' := by
  rcases h with h | h
  · go_enter Tryz.func198, Tryz.ntmps198
    go_wp2
    go_ret2
    exact ⟨rfl, rfl⟩
  · have h' : ¬ s.size < 1 := by omega
    go_enter Tryz.func198, Tryz.ntmps198
    go_wp2
    go_ret2
    exact ⟨rfl, rfl⟩

set_option maxRecDepth 100000 in
set_option maxHeartbeats 1000000 in
theorem undec_in (s : ByteArray) (w : World) (h1 : 1 ≤ s.size) (hs : s.size ≤ 18) (N : Int) (B : Bool) (hB : B = s.data.toList.all isD) (hN : N = if s.data.toList.all isD = true then (numD s.data.toList : Int) else 0) :
    Calls Tryz.prog 198 #[.string s] w fun e w' => e = .returned (.tuple #[.int .i64 N, .bool B]) ∧ w = w' := by
  have HB := Lib.hid hB
  have HN := Lib.hid hN
  clear hB hN
  go_enter Tryz.func198, Tryz.ntmps198
  go_wp2
  go_loop [4, 16] (fun n i => ∃ k : Nat, k ≤ s.size ∧ i = .int .i64 k ∧ Hid ((s.data.toList.take k).all isD = true) ∧ n = .int .i64 ((numD (s.data.toList.take k) : Nat) : Int)) (fun _ i => s.size - (intOf i).toNat)
  case atStart => exact ⟨0, Nat.zero_le _, rfl, Lib.hid rfl, rfl⟩
  case round =>
    obtain ⟨k, hk, rfl, HA, rfl⟩ := hrel
    by_cases hlt : k < s.size
    · have hts : numD (s.data.toList.take (k + 1)) = 10 * numD (s.data.toList.take k) + (s[k].toNat - 48) := by
        rw [take_snoc s k hlt, numD_snoc]
      have has : (s.data.toList.take (k + 1)).all isD = isD s[k] := by
        rw [take_snoc s k hlt, List.all_append, HA.out]; simp
      have hb : numD (s.data.toList.take k) < 10 ^ 17 := numD_lt _ 17 HA.out (by simp; omega)
      have hb2 : numD (s.data.toList.take k) < 100000000000000000 := hb
      clear hb
      have hc := s[k].toNat_lt
      have HS := Lib.hid hts
      have HSA := Lib.hid has
      clear hts has
      generalize numD (s.data.toList.take k) = q at *
      by_cases c1 : 48 ≤ s[k].toNat
      · by_cases c2 : s[k].toNat ≤ 57
        · have hd : isD s[k] = true := by unfold isD; simp [c1, c2]
          have HD := Lib.hid hd
          clear hd
          go_wp2_with fail
          go_round
          case rel => exact ⟨k + 1, by omega, by go_num, Lib.hid (by rw [HSA.out, HD.out]), by rw [HS.out]; congr 1; omega⟩
          case measure => simp [intOf]; omega
        · have hd : isD s[k] = false := by unfold isD; simp; omega
          have hno : s.data.toList.all isD = false := by
            cases hc : s.data.toList.all isD with
            | false => rfl
            | true => have := all_take _ (k + 1) hc; rw [HSA.out, hd] at this; cases this
          have hN0 : N = 0 := by rw [HN.out, hno]; rfl
          have hB0 : B = false := by rw [HB.out, hno]
          subst hN0 hB0
          clear hd hno
          go_wp2_with fail
          go_ret2
          exact ⟨rfl, rfl⟩
      · have hd : isD s[k] = false := by unfold isD; simp; omega
        have hno : s.data.toList.all isD = false := by
          cases hc : s.data.toList.all isD with
          | false => rfl
          | true => have := all_take _ (k + 1) hc; rw [HSA.out, hd] at this; cases this
        have hN0 : N = 0 := by rw [HN.out, hno]; rfl
        have hB0 : B = false := by rw [HB.out, hno]
        subst hN0 hB0
        clear hd hno
        go_wp2_with fail
        go_ret2
        exact ⟨rfl, rfl⟩
    · have hall : s.data.toList.take k = s.data.toList := List.take_of_length_le (by simp; omega)
      have hAA := HA.out
      rw [hall] at hAA
      have hB0 : B = true := by rw [HB.out, hAA]
      have hN0 : N = (numD s.data.toList : Int) := by rw [HN.out, hAA]; rfl
      rw [hall]
      subst hB0
      have HN0 := Lib.hid hN0
      clear hall hAA hN0
      go_wp2_with fail
      go_ret2
      rw [HN0.out]
      exact ⟨rfl, rfl⟩

/-- digit number j from the right -/
def dg (n j : Nat) : Int := 48 + ((n / 10 ^ j % 10 : Nat) : Int)

set_option maxRecDepth 100000 in
theorem slice18 (width b : Nat) (h0 : 1 ≤ width) (h1 : width ≤ 18) : ∀ w : World,
    (Instr.sliceAt 183 (.pointer (some ⟨b, 0, none⟩)) none (some (.int .i64 (width : Int))) none).run Tryz.prog w = .ok (.slice (some ⟨b, 0, none⟩) width 18) w := by
  intro w
  rcases (show width = 1 ∨ width = 2 ∨ width = 3 ∨ width = 4 ∨ width = 5 ∨ width = 6 ∨ width = 7 ∨ width = 8 ∨ width = 9 ∨ width = 10 ∨ width = 11 ∨ width = 12 ∨ width = 13 ∨ width = 14 ∨ width = 15 ∨ width = 16 ∨ width = 17 ∨ width = 18 by omega) with rfl | rfl | rfl | rfl | rfl | rfl | rfl | rfl | rfl | rfl | rfl | rfl | rfl | rfl | rfl | rfl | rfl | rfl <;> kernel_rfl

set_option maxRecDepth 100000 in
set_option maxHeartbeats 1000000 in
theorem dec_mid (n width : Nat) (w : World) (hn : n ≤ 9223372036854775807) (h0 : 1 ≤ width) (h1 : width ≤ 18) (X : ByteArray) (hX : X = if n < 10 ^ width then strOfNums ((List.range width).map fun i => dg n (width - 1 - i)) else ⟨#[]⟩) :
    Calls Tryz.prog 142 #[.int .i64 (n : Int), .int .i64 (width : Int)] w fun e w' => e = .returned (.string X) ∧ Since w w' := by
  have HX := Lib.hid hX
  clear hX
  go_enter Tryz.func142, Tryz.ntmps142
  go_wp2
  go_loopw [0, 18] (fun v i wr => ∃ k m : Nat, k ≤ width ∧ i = .int .i64 (k : Int) ∧ Hid (m = n / 10 ^ k) ∧ m ≤ 9223372036854775807 ∧ v = .int .i64 (m : Int) ∧ Hid (wr.rowIs w.heap.size 183 18 (fun j => if width ≤ j + k ∧ j < width then .int .u8 (dg n (width - 1 - j)) else .int .u8 0)) ∧ Hid (Since w wr)) (fun _ i _ => width - (intOf i).toNat)
  case atStart =>
    refine ⟨0, n, by omega, rfl, Lib.hid (by simp), hn, rfl, Lib.hid ?_, Lib.hid ((Since.refl w).alloc _)⟩
    refine (World.rowIs_alloc w _ _ (fun _ => .int .u8 0) (fun i hi => by
        match i, hi with
        | 0, _ | 1, _ | 2, _ | 3, _ | 4, _ | 5, _ | 6, _ | 7, _ | 8, _ | 9, _ | 10, _ | 11, _ | 12, _ | 13, _ | 14, _ | 15, _ | 16, _ | 17, _ => rfl
        | n + 18, hi => simp at hi; omega)).congr fun j _ => by rw [if_neg (by omega)]
  case round =>
    obtain ⟨k, m, hk, rfl, HM, hm, rfl, HR, HS⟩ := hrel
    by_cases hlt : k < width
    · have hc := HR.out.cell (i := width - 1 - k) (by omega)
      have hf := HR.out.frozen (width - 1 - k)
      have HC := Lib.hid hc
      rw [if_neg (by omega)] at hc
      clear HC
      go_wp2_with fail
      go_roundw
      case rel =>
        refine ⟨k + 1, m / 10, by omega, by go_num, Lib.hid (by rw [HM.out, Nat.div_div_eq_div_mul, Nat.pow_succ]), by omega, by go_num, Lib.hid ((HR.out.set (width - 1 - k) _).congr fun j hj => ?_), Lib.hid (Below.setCell HS.out (p := ⟨w.heap.size, width - 1 - k, none⟩) (Nat.le_refl _) _)⟩
        by_cases h9 : j = width - 1 - k
        · rw [if_pos h9, if_pos (by omega)]
          unfold dg
          rw [show width - 1 - j = k from by omega, ← HM.out]
          simp
        · rw [if_neg h9]
          by_cases h8 : width ≤ j + k ∧ j < width
          · rw [if_pos h8, if_pos (by omega)]
          · rw [if_neg h8, if_neg (by omega)]
      case measure => simp [intOf]; omega
    · obtain rfl : k = width := by omega
      by_cases hm0 : m = 0
      · have hlt2 : n < 10 ^ k := by
          have h9 := HM.out
          rw [hm0] at h9
          exact (Nat.div_eq_zero_iff.1 h9.symm).resolve_left (Nat.ne_of_gt (Nat.pow_pos (by decide)))
        have hX0 : X = strOfNums ((List.range k).map fun i => dg n (k - 1 - i)) := by rw [HX.out, if_pos hlt2]
        subst hm0
        have hsl := slice18 k w.heap.size h0 h1
        have g := run_convert_bytes_arg (P := Tryz.prog) wr 114 5 Tryz.underlying114 Tryz.underlying5 w.heap.size 0 k 18 ((List.range k).map fun i => dg n (k - 1 - i)) (by simp) (fun i hi => by
          rw [Nat.zero_add, HR.out.cell (by omega), if_pos (by omega)]; simp [List.getD, hi]) 9 Tryz.underlying9
        rw [← hX0] at g
        clear hX0 hlt2
        go_wp2_with fail
        go_ret
        exact ⟨rfl, HS.out⟩
      · have hge : ¬ n < 10 ^ k := fun h => hm0 (by rw [HM.out]; exact Nat.div_eq_of_lt h)
        have hX0 : X = ⟨#[]⟩ := by rw [HX.out, if_neg hge]
        have hm1 : 0 < m := by omega
        subst hX0
        clear hge hm0
        go_wp2_with fail
        go_ret
        exact ⟨rfl, HS.out⟩

end Dig
end Go.Proofs.YtddlaafpianjbaaGreatDoor

/- Digits there and back, in plain Lean: hexadecimal, decimal, numbers. -/
namespace Go.Proofs.YtddlaafpianjbaaGreatDoor
open Go.RowKit
namespace Dig

theorem getD_get (l : List UInt8) (i : Nat) (x : UInt8) (h : l[i]? = some x) : l.getD i 0 = x := by unfold List.getD; rw [h]; rfl
theorem hi_hex (l : List UInt8) (j : Nat) (hj : j < l.length) : hi (hexL l) j = (((l.getD j 0).toNat / 16 : Nat) : Int) ∧ lo (hexL l) j = (((l.getD j 0).toNat % 16 : Nat) : Int) := by
  have hc := (l.getD j 0).toNat_lt
  have h1 := hexL_get l (2 * j) (by omega)
  have h2 := hexL_get l (2 * j + 1) (by omega)
  rw [if_pos (by omega), show 2 * j / 2 = j from by omega] at h1
  rw [if_neg (by omega), show (2 * j + 1) / 2 = j from by omega] at h2
  unfold hi lo
  rw [getD_get _ _ _ h1, getD_get _ _ _ h2]
  exact ⟨val_sign _ _ (by omega) rfl, val_sign _ _ (by omega) rfl⟩
theorem ok_hex (l : List UInt8) : okN (hexL l) l.length = true := by
  unfold okN
  rw [List.all_eq_true]
  intro j hj
  obtain ⟨h1, h2⟩ := hi_hex l j (List.mem_range.1 hj)
  rw [h1, h2]
  simp
  omega
theorem pair_hex (l : List UInt8) : ((List.range l.length).map (pairV (hexL l))).map (fun n => UInt8.ofNat n.toNat) = l := by
  apply List.ext_getElem?
  intro i
  by_cases h : i < l.length
  · obtain ⟨h1, h2⟩ := hi_hex l i h
    have hg : l.getD i 0 = l[i] := by simp [List.getD, h]
    rw [hg] at h1 h2
    have hp : (pairV (hexL l) i).toNat = l[i].toNat := by unfold pairV; rw [h1, h2]; omega
    rw [List.map_map, List.getElem?_map, List.getElem?_range h, List.getElem?_eq_getElem h]
    show some (UInt8.ofNat (pairV (hexL l) i).toNat) = _
    rw [hp, UInt8.ofNat_toNat]
  · rw [List.getElem?_eq_none (by simp; omega), List.getElem?_eq_none (by omega)]
theorem dg_byte (n j : Nat) : (UInt8.ofNat (dg n j).toNat).toNat = 48 + n / 10 ^ j % 10 := by
  unfold dg
  have h : n / 10 ^ j % 10 < 10 := Nat.mod_lt _ (by decide)
  generalize n / 10 ^ j % 10 = q at h
  rw [UInt8.toNat_ofNat']
  omega
theorem numD_dec (W : Nat) : ∀ n : Nat, numD ((List.range W).map fun i => UInt8.ofNat (dg n (W - 1 - i)).toNat) = n % 10 ^ W := by
  induction W with
  | zero => intro n; simp [numD, Nat.mod_one]
  | succ W ih =>
    intro n
    rw [List.range_succ, List.map_append, List.map_cons, List.map_nil, numD_snoc, dg_byte]
    have hp : (List.range W).map (fun i => UInt8.ofNat (dg n (W + 1 - 1 - i)).toNat) = (List.range W).map (fun i => UInt8.ofNat (dg (n / 10) (W - 1 - i)).toNat) := by
      apply List.map_congr_left
      intro i hi
      have hi' := List.mem_range.1 hi
      unfold dg
      rw [Nat.div_div_eq_div_mul, Nat.mul_comm 10, ← Nat.pow_succ, show (W - 1 - i).succ = W + 1 - 1 - i from by omega]
    rw [hp, ih (n / 10), show W + 1 - 1 - W = 0 from by omega, Nat.pow_zero, Nat.div_one]
    have h1 : n % 10 ^ (W + 1) = 10 * (n / 10 % 10 ^ W) + n % 10 := by
      rw [Nat.pow_succ, Nat.mul_comm (10 ^ W) 10, Nat.mod_mul]
      omega
    rw [h1]
    omega
theorem isD_dec (W n : Nat) : ((List.range W).map fun i => UInt8.ofNat (dg n (W - 1 - i)).toNat).all isD = true := by
  rw [List.all_eq_true]
  intro x hx
  obtain ⟨i, _, rfl⟩ := List.mem_map.1 hx
  have h := dg_byte n (W - 1 - i)
  have h2 : n / 10 ^ (W - 1 - i) % 10 < 10 := Nat.mod_lt _ (by decide)
  unfold isD
  rw [h]
  simp
  omega
/-- a number's decimal digits -/
def digs : Nat → Nat → List UInt8
  | 0, _ => []
  | f+1, M => if M < 10 then [UInt8.ofNat (48 + M)] else digs f (M / 10) ++ [UInt8.ofNat (48 + M % 10)]
def step (n : Int) (c : UInt8) : Int := if 48 ≤ c.toNat ∧ c.toNat ≤ 57 then wrap64 (10 * n - ((c.toNat : Int) - 48)) else n
/-- a number's text -/
def numS (n : Int) : List UInt8 := if n < 0 then 45 :: digs 20 n.natAbs else digs 20 n.natAbs
def unF (t : List UInt8) : Int := t.foldl step 0
def unV (t : List UInt8) : Int := if t ≠ [] ∧ t.head? ≠ some 45 then wrap64 (-(unF t)) else unF t
end Dig
end Go.Proofs.YtddlaafpianjbaaGreatDoor

/- The walk of digits.Num. -/
namespace Go.Proofs.YtddlaafpianjbaaGreatDoor
open Go.RowKit
namespace Dig

end Dig
end Go.Proofs.YtddlaafpianjbaaGreatDoor

/- The walk of digits.Unnum (NOT YET BUILT). -/
namespace Go.Proofs.YtddlaafpianjbaaGreatDoor
open Go.RowKit
namespace Dig

end Dig
end Go.Proofs.YtddlaafpianjbaaGreatDoor

/- The reference's decimal texts: plain, Num, Dec, Undec, Unnum. -/
namespace Go.Proofs.YtddlaafpianjbaaGreatDoor
open Go.RowKit
namespace RefDig
open Dig

/-- k digits of a number, from the right -/
def lowD (M k : Nat) : List UInt8 := (List.range k).map fun i => UInt8.ofNat (dg M (k - 1 - i)).toNat
end RefDig
end Go.Proofs.YtddlaafpianjbaaGreatDoor

/- The reference's Undec, Dec, Unnum. -/
namespace Go.Proofs.YtddlaafpianjbaaGreatDoor
open Go.RowKit
namespace RefDig
open Dig

end RefDig
end Go.Proofs.YtddlaafpianjbaaGreatDoor

/- The reference's Xor and Join. -/
namespace Go.Proofs.YtddlaafpianjbaaGreatDoor
open Go.RowKit
namespace RefOct

end RefOct
end Go.Proofs.YtddlaafpianjbaaGreatDoor
