/- Joined texts. -/
-- PACK: YtgfdomdbjiflmaaGreatDoorRefDig YtgfdomdbjiflmaaGreatDoorRefDigU YtgfdomdbjiflmaaGreatDoorRefSbox
import Derived.Test.YtgfdomdbjiflmaaGreatDoorKv4
import Derived.Test.YtgfdomdbjiflmaaGreatDoorKv2
import Derived.Test.YtgfdomdbjiflmaaGreatDoorKv6
import Derived.Laws.BytesArg
import Derived.Deep.QuietTactic
import Derived.BigQuiet
import Derived.Deep.OwnRows
import Derived.Deep.Draws
import Derived.Test.YtgfdomdbjiflmaaGreatDoorKv10

/- The walks of the reference of package digits: Value and Unhex. -/
namespace Go.Proofs.YtgfdomdbjiflmaaGreatDoor
open Go.RowKit
namespace RefDig

set_option maxRecDepth 100000 in
set_option maxHeartbeats 400000 in
theorem value_any (c : Nat) (w : World) (hc : c < 256) (V : Int) (hV : V = Dig.val c) :
    Calls Tryz.prog 82 #[.int .u8 (c : Int)] w fun e w' => e = .returned (.int .i64 V) ∧ w = w' := by
  have HV := Lib.hid hV
  clear hV
  go_enter Tryz.func82, Tryz.ntmps82
  go_wp2
  go_loop [3] (fun i => ∃ k : Nat, k ≤ 16 ∧ i = .int .i64 (k : Int) ∧ Hid (∀ j, j < k → (Dig.sign j).toNat ≠ c)) (fun i => 16 - (intOf i).toNat)
  case atStart => exact ⟨0, by omega, rfl, Lib.hid (fun j hj => by omega)⟩
  case round =>
    obtain ⟨k, hk, rfl, HN⟩ := hrel
    by_cases hlt : k < 16
    · have hsg := Dig.sign_at k hlt
      have HSG := Lib.hid hsg
      obtain ⟨d, hd⟩ : ∃ d, d = (Dig.sign k).toNat := ⟨_, rfl⟩
      have hdd := congrArg UInt8.toNat hsg
      rw [← hd] at hdd
      have HD := Lib.hid hd
      have hd256 : d < 256 := by rw [hd]; exact (Dig.sign k).toNat_lt
      clear hsg hd
      by_cases heq : d = c
      · have hval := Dig.val_sign c k hlt (by rw [← HD.out]; exact heq)
        have hV0 : V = (k : Int) := by rw [HV.out, hval]
        subst heq
        have HV0 := Lib.hid hV0
        clear hV0 hval
        go_wp2_with fail
        go_ret
        rw [HV0.out]
        exact ⟨rfl, rfl⟩
      · have hb : ((d : Int) == (c : Int)) = false := by rw [beq_eq_false_iff_ne]; omega
        have HE := Lib.hid heq
        clear heq
        go_wp2_with fail
        go_round
        case rel =>
          refine ⟨k + 1, by omega, by go_num, Lib.hid (fun j hj => ?_)⟩
          by_cases hjk : j < k
          · exact HN.out j hjk
          · obtain rfl : j = k := by omega
            rw [← HD.out]; exact HE.out
        case measure => simp [intOf]; omega
    · obtain rfl : k = 16 := by omega
      have hV0 : V = -1 := by rw [HV.out, Dig.val_none c hc HN.out]
      subst hV0
      go_wp2_with fail
      go_ret
      exact ⟨rfl, rfl⟩

set_option maxRecDepth 100000 in
theorem qval (c : Nat) (hc : c < 256) (h : Int) (hh : Dig.val c = h) (W : World) : Calls Tryz.prog 82 #[.int .u8 (c : Int)] W fun e w' => e = .returned (.int .i64 h) ∧ w' = W :=
  (value_any c W hc h hh.symm).mono fun _ _ ⟨he, hw⟩ => ⟨he, hw.symm⟩

set_option maxRecDepth 100000 in
set_option maxHeartbeats 400000 in
theorem unhex_odd (s : ByteArray) (w : World) (hm : s.size ≤ 140737488355328) (h : s.size % 2 = 1) :
    Calls Tryz.prog 49 #[.string s] w fun e w' => e = .returned (.tuple #[.string ⟨#[]⟩, .bool false]) ∧ Since w w' := by
  have hb : ((s.size : Int) % 2 != 0) = true := by rw [bne_iff_ne]; omega
  clear h
  go_enter Tryz.func49, Tryz.ntmps49
  go_wp2
  go_ret2
  exact ⟨rfl, Since.refl w⟩

set_option maxRecDepth 100000 in
set_option maxHeartbeats 1000000 in
theorem unhex_even (s : ByteArray) (m : Nat) (w : World) (hm : s.size ≤ 140737488355328) (h : s.size = 2 * m) (X : ByteArray) (B : Bool) (hB : B = Dig.okN s.data.toList m) (hX : X = if Dig.okN s.data.toList m = true then strOfNums ((List.range m).map (Dig.pairV s.data.toList)) else ⟨#[]⟩) :
    Calls Tryz.prog 49 #[.string s] w fun e w' => e = .returned (.tuple #[.string X, .bool B]) ∧ Since w w' := by
  have HBB := Lib.hid hB
  have HXX := Lib.hid hX
  clear hB hX
  have hb : ((s.size : Int) % 2 != 0) = false := by rw [bne_eq_false_iff_eq]; omega
  have hle : 2 * m ≤ s.size := by omega
  have hge : s.size ≤ 2 * m := by omega
  have HH := Lib.hid h
  clear h
  go_enter Tryz.func49, Tryz.ntmps49
  go_wp2
  clear hb
  go_loopw [4, 5] (fun o i wr => ∃ k : Nat, k ≤ m ∧ i = .int .i64 (2 * (k : Int)) ∧ Hid (Dig.okN s.data.toList k = true) ∧ (∃ S : ByteArray, o = .string S ∧ S.size ≤ k ∧ Hid (S = strOfNums ((List.range k).map (Dig.pairV s.data.toList)))) ∧ Hid (Since w wr)) (fun _ i _ => 2 * m - (intOf i).toNat)
  case atStart => exact ⟨0, by omega, rfl, Lib.hid rfl, ⟨⟨#[]⟩, rfl, Nat.le_refl _, Lib.hid rfl⟩, Lib.hid (Since.refl w)⟩
  case round =>
    obtain ⟨k, hk, rfl, HO, ⟨S, rfl, hS, HSS0⟩, HS⟩ := hrel
    by_cases hlt : k < m
    · have k1 : 2 * k < s.size := by omega
      have k2 : 2 * k + 1 < s.size := by omega
      have hs := Dig.okN_succ s.data.toList k
      have hp : Dig.pairV s.data.toList k = 16 * Dig.hi s.data.toList k + Dig.lo s.data.toList k := rfl
      obtain ⟨a, ha⟩ : ∃ a, s[2 * k].toNat = a := ⟨_, rfl⟩
      obtain ⟨b, hb⟩ : ∃ b, s[2 * k + 1].toNat = b := ⟨_, rfl⟩
      have ha2 : a < 256 := by rw [← ha]; exact s[2 * k].toNat_lt
      have hb2 : b < 256 := by rw [← hb]; exact s[2 * k + 1].toNat_lt
      have hva : Dig.val a = Dig.hi s.data.toList k := by unfold Dig.hi; rw [Dig.getD_at s _ k1, ha]
      have hvb : Dig.val b = Dig.lo s.data.toList k := by unfold Dig.lo; rw [Dig.getD_at s _ k2, hb]
      have va := Dig.val_lt a
      have vb := Dig.val_lt b
      rw [hva] at va
      rw [hvb] at vb
      have C1 := Lib.hid (fun W => qval a ha2 _ hva W)
      have C2 := Lib.hid (fun W => qval b hb2 _ hvb W)
      clear hva hvb
      generalize Dig.hi s.data.toList k = x at *
      generalize Dig.lo s.data.toList k = y at *
      have HSS := Lib.hid hs
      have HPP := Lib.hid hp
      clear hs hp
      have e2 : IntKind.i64.wrap (2 * (k : Int) + 1) = 2 * (k : Int) + 1 := IntWalk.i64_in _ (by omega)
      have n1 : (2 * (k : Int)).toNat = 2 * k := by omega
      have n2 : (2 * (k : Int) + 1).toNat = 2 * k + 1 := by omega
      have q1 : (0 : Int) ≤ 2 * (k : Int) := by omega
      have q2 : (0 : Int) ≤ 2 * (k : Int) + 1 := by omega
      have l1 : 2 * (k : Int) < (s.size : Int) := by omega
      have l2 : 2 * (k : Int) + 1 < (s.size : Int) := by omega
      go_wp2_with fail
      go_quiet (first | (go_at_call 82; with_reducible exact Calls.quiet_of_same (C1.out _)) | (go_at_call 82; with_reducible exact Calls.quiet_of_same (C2.out _)))
      clear e2 n1 n2 q1 q2 l1 l2
      have hno : Dig.okN s.data.toList (k + 1) = false → Dig.okN s.data.toList m = false := fun h => by
        cases hc : Dig.okN s.data.toList m with
        | false => rfl
        | true => rw [Dig.okN_le _ _ _ hc (by omega)] at h; cases h
      have HNO := Lib.hid hno
      clear hno
      by_cases hx : 0 ≤ x
      · by_cases hy : 0 ≤ y
        · have r0 := fun q : Nat => World.rowIs_alloc (wr.drewN q) #[.int .u8 (16 * x + y)] 5 (fun _ => .int .u8 (16 * x + y)) (fun j hj => by
            obtain rfl : j = 0 := by simp at hj; omega
            rfl)
          have g := fun q : Nat => run_convert_bytes_arg (P := Tryz.prog) ((wr.drewN q).alloc (.cells #[.int .u8 (16 * x + y)] 5)) 86 5 Tryz.underlying86 Tryz.underlying5 wr.heap.size 0 1 1 [16 * x + y] rfl (fun i hi => by
            obtain rfl : i = 0 := by omega
            have r1 : ((wr.drewN q).alloc (.cells #[.int .u8 (16 * x + y)] 5)).rowIs wr.heap.size 5 1 (fun _ => .int .u8 (16 * x + y)) := r0 q
            rw [Nat.zero_add, r1.cell (Nat.lt_succ_self 0)]; rfl) 9 Tryz.underlying9
          clear r0
          have hsz : ¬ 9223372036854775807 < S.size + (strOfNums [16 * x + y]).size := by rw [strOfNums_size]; simp; omega
          go_wp2_with fail
          go_roundw
          case rel =>
            refine ⟨k + 1, by omega, by go_num, Lib.hid (by rw [HSS.out, HO.out]; simp [hx, hy]), ⟨_, rfl, ?_, Lib.hid ?_⟩, Lib.hid (Since.alloc (w := wr.drewN _) (HS.out.step ⟨rfl, rfl, rfl, Nat.le_refl _, fun _ _ => rfl⟩) _)⟩
            · show (S ++ strOfNums [16 * x + y]).size ≤ k + 1
              have h9 : (S ++ strOfNums [16 * x + y]).size = S.size + 1 := by
                have h8 := congrArg List.length (app_list S (strOfNums [16 * x + y]))
                rw [List.length_append, nums_list] at h8
                exact h8
              omega
            · apply ba_ext
              rw [app_list, nums_list, nums_list, List.range_succ, List.map_append, List.map_append, HSS0.out, nums_list]
              simp only [List.map_cons, List.map_nil]
              rw [HPP.out]
          case measure => simp [intOf]; omega
        · have hf9 := HNO.out (by rw [HSS.out]; simp [hy])
          have hX0 : X = ⟨#[]⟩ := by rw [HXX.out, hf9]; rfl
          have hB0 : B = false := by rw [HBB.out, hf9]
          subst hX0 hB0
          clear hf9
          go_wp2_with fail
          go_ret2
          exact ⟨rfl, Since.step (w' := wr.drewN _) HS.out ⟨rfl, rfl, rfl, Nat.le_refl _, fun _ _ => rfl⟩⟩
      · have hf9 := HNO.out (by rw [HSS.out]; simp [hx])
        have hX0 : X = ⟨#[]⟩ := by rw [HXX.out, hf9]; rfl
        have hB0 : B = false := by rw [HBB.out, hf9]
        subst hX0 hB0
        clear hf9
        go_wp2_with fail
        go_ret2
        exact ⟨rfl, Since.step (w' := wr.drewN _) HS.out ⟨rfl, rfl, rfl, Nat.le_refl _, fun _ _ => rfl⟩⟩
    · obtain rfl : k = m := by omega
      have hB0 : B = true := by rw [HBB.out, HO.out]
      have hX0 : X = S := by rw [HXX.out, HO.out, HSS0.out]; rfl
      subst hB0 hX0
      go_wp2_with fail
      go_ret2
      exact ⟨rfl, HS.out⟩

theorem sign_cut (d : Nat) (h : d < 16) : (⟨#[48, 49, 50, 51, 52, 53, 54, 55, 56, 57, 65, 66, 67, 68, 69, 70]⟩ : ByteArray).extract d (d + 1) = bs [Dig.sign d] := by
  rcases (show d = 0 ∨ d = 1 ∨ d = 2 ∨ d = 3 ∨ d = 4 ∨ d = 5 ∨ d = 6 ∨ d = 7 ∨ d = 8 ∨ d = 9 ∨ d = 10 ∨ d = 11 ∨ d = 12 ∨ d = 13 ∨ d = 14 ∨ d = 15 by omega) with rfl | rfl | rfl | rfl | rfl | rfl | rfl | rfl | rfl | rfl | rfl | rfl | rfl | rfl | rfl | rfl <;> rfl
theorem hex_snoc (l : List UInt8) (c : UInt8) : Dig.hexL (l ++ [c]) = Dig.hexL l ++ [Dig.sign (c.toNat / 16), Dig.sign (c.toNat % 16)] := by
  unfold Dig.hexL; rw [List.flatMap_append]; rfl

set_option maxRecDepth 100000 in
set_option maxHeartbeats 1000000 in
theorem hex_any (s : ByteArray) (w : World) (hm : s.size ≤ 70368744177664) (X : ByteArray) (hX : X = bs (Dig.hexL s.data.toList)) :
    Calls Tryz.prog 134 #[.string s] w fun e w' => e = .returned (.string X) ∧ Since w w' := by
  have HX := Lib.hid hX
  clear hX
  go_enter Tryz.func134, Tryz.ntmps134
  go_wp2
  go_loopw [3, 4] (fun o i wr => ∃ k : Nat, k ≤ s.size ∧ i = .int .i64 (k : Int) ∧ (∃ S : ByteArray, o = .string S ∧ S.size ≤ 2 * k ∧ Hid (S = bs (Dig.hexL (s.data.toList.take k)))) ∧ Hid (Since w wr)) (fun _ i _ => s.size - (intOf i).toNat)
  case atStart => exact ⟨0, by omega, rfl, ⟨⟨#[]⟩, rfl, Nat.le_refl _, Lib.hid rfl⟩, Lib.hid (Since.refl w)⟩
  case round =>
    obtain ⟨k, hk, rfl, ⟨S, rfl, hS, HSS⟩, HS⟩ := hrel
    by_cases hlt : k < s.size
    · have hst : Dig.hexL (s.data.toList.take (k + 1)) = Dig.hexL (s.data.toList.take k) ++ [Dig.sign (s[k].toNat / 16), Dig.sign (s[k].toNat % 16)] := by
        rw [List.take_succ_eq_append_getElem (by simpa using hlt), hex_snoc]; rfl
      obtain ⟨c, hc⟩ : ∃ c, s[k].toNat = c := ⟨_, rfl⟩
      have hc2 : c < 256 := by rw [← hc]; exact s[k].toNat_lt
      rw [hc] at hst
      obtain ⟨A, hA⟩ : ∃ A, c / 16 = A := ⟨_, rfl⟩
      obtain ⟨B, hB⟩ : ∃ B, c % 16 = B := ⟨_, rfl⟩
      rw [hA, hB] at hst
      have hA2 : A < 16 := by omega
      have hB2 : B < 16 := by omega
      have qA : (c : Int) / 16 = (A : Int) := by omega
      have qB : (c : Int) % 16 = (B : Int) := by omega
      have x1 := sign_cut A hA2
      have x2 := sign_cut B hB2
      have z1 : ¬ 9223372036854775807 < S.size + (bs [Dig.sign A]).size := by rw [size_bs]; simp; omega
      have z2 : ¬ 9223372036854775807 < (S ++ bs [Dig.sign A]).size + (bs [Dig.sign B]).size := by
        have h9 : (S ++ bs [Dig.sign A]).size = S.size + 1 := by
          have h8 := congrArg List.length (app_list S (bs [Dig.sign A]))
          rw [List.length_append, list_bs] at h8
          exact h8
        rw [size_bs, h9]; simp; omega
      have e1 : IntKind.i64.wrap ((A : Int) + 1) = (A : Int) + 1 := IntWalk.i64_in _ (by omega)
      have e2 : IntKind.i64.wrap ((B : Int) + 1) = (B : Int) + 1 := IntWalk.i64_in _ (by omega)
      have n1 : ((A : Int) + 1).toNat = A + 1 := by omega
      have n2 : ((B : Int) + 1).toNat = B + 1 := by omega
      have HST := Lib.hid hst
      clear hst hA hB
      go_wp2_with fail
      go_quiet (fail)
      clear e1 e2 n1 n2
      go_wp2_with fail
      go_roundw
      case rel =>
        refine ⟨k + 1, by omega, by go_num, ⟨_, rfl, ?_, Lib.hid ?_⟩, Lib.hid (Since.step (w' := wr.drewN _) HS.out ⟨rfl, rfl, rfl, Nat.le_refl _, fun _ _ => rfl⟩)⟩
        · have h8 := congrArg List.length (app_list (S ++ bs [Dig.sign A]) (bs [Dig.sign B]))
          have h7 := congrArg List.length (app_list S (bs [Dig.sign A]))
          rw [List.length_append, list_bs] at h8 h7
          have h9 : (S ++ bs [Dig.sign A] ++ bs [Dig.sign B]).size = (S ++ bs [Dig.sign A]).size + 1 := h8
          have h6 : (S ++ bs [Dig.sign A]).size = S.size + 1 := h7
          rw [h9, h6]; omega
        · apply ba_ext
          rw [app_list, app_list, list_bs, list_bs, list_bs, HSS.out, list_bs, HST.out]
          simp
      case measure => simp [intOf]; omega
    · obtain rfl : k = s.size := by omega
      have hX0 : X = S := by rw [HX.out, HSS.out, List.take_of_length_le (by simp)]
      subst hX0
      go_wp2_with fail
      go_ret
      exact ⟨rfl, HS.out⟩

end RefDig
end Go.Proofs.YtgfdomdbjiflmaaGreatDoor

/- The walks of the reference of package digits: Value and Unhex. -/

/- The walks of the reference of package sbox: Sub, Back, Subs, Backs, Table. -/
namespace Go.Proofs.YtgfdomdbjiflmaaGreatDoor
open Go.RowKit
namespace RefSbox
open Sbox (Rdr sub back sub_lt back_lt)

set_option maxRecDepth 100000 in
set_option maxHeartbeats 4000000 in
theorem sub_rdr (a : Nat) (ha : a ≤ 255) : Rdr 153 #[.int .u8 (a : Int)] (.int .u8 ((sub a : Nat) : Int)) := by
  intro w
  go_enter Tryz.func153, Tryz.ntmps153
  generalize hT : ByteArray.mk (List.toArray (_ ++ _)) = T
  have hall : (List.range 256).all (fun a => Dig.pairV T.data.toList a == ((sub a : Nat) : Int)) = true := by rw [← hT]; decide +kernel
  have hsz : T.size = 512 := by rw [← hT]; rfl
  have hp : Dig.pairV T.data.toList a = ((sub a : Nat) : Int) := by
    have h := List.all_eq_true.1 hall a (List.mem_range.2 (by omega))
    exact beq_iff_eq.1 h
  clear hall hT
  have hlt := sub_lt a
  generalize sub a = v at *
  have k1 : 2 * a < T.size := by omega
  have k2 : 2 * a + 1 < T.size := by omega
  have hp2 : Dig.pairV T.data.toList a = 16 * Dig.hi T.data.toList a + Dig.lo T.data.toList a := rfl
  obtain ⟨b, hb⟩ : ∃ b, T[2 * a].toNat = b := ⟨_, rfl⟩
  obtain ⟨c, hc⟩ : ∃ c, T[2 * a + 1].toNat = c := ⟨_, rfl⟩
  have hb2 : b < 256 := by rw [← hb]; exact T[2 * a].toNat_lt
  have hc2 : c < 256 := by rw [← hc]; exact T[2 * a + 1].toNat_lt
  have hvb : Dig.val b = Dig.hi T.data.toList a := by unfold Dig.hi; rw [Dig.getD_at T _ k1, hb]
  have hvc : Dig.val c = Dig.lo T.data.toList a := by unfold Dig.lo; rw [Dig.getD_at T _ k2, hc]
  have vb := Dig.val_lt b
  have vc := Dig.val_lt c
  rw [hvb] at vb
  rw [hvc] at vc
  have C1 := Lib.hid (fun W => RefDig.qval b hb2 _ hvb W)
  have C2 := Lib.hid (fun W => RefDig.qval c hc2 _ hvc W)
  clear hvb hvc
  rw [hp2] at hp
  clear hp2
  generalize Dig.hi T.data.toList a = x at *
  generalize Dig.lo T.data.toList a = y at *
  have e2 : IntKind.i64.wrap (2 * (a : Int) + 1) = 2 * (a : Int) + 1 := IntWalk.i64_in _ (by omega)
  have n1 : (2 * (a : Int)).toNat = 2 * a := by omega
  have n2 : (2 * (a : Int) + 1).toNat = 2 * a + 1 := by omega
  have q1 : (0 : Int) ≤ 2 * (a : Int) := by omega
  have q2 : (0 : Int) ≤ 2 * (a : Int) + 1 := by omega
  have l1 : 2 * (a : Int) < (T.size : Int) := by omega
  have l2 : 2 * (a : Int) + 1 < (T.size : Int) := by omega
  have e3 : IntKind.u8.wrap (16 * x + y) = (v : Int) := by rw [hp]; simp [IntKind.wrap, IntKind.bits, IntKind.signed]; omega
  have e4 : IntKind.i64.wrap (16 * x) = 16 * x := IntWalk.i64_in _ (by omega)
  have e5 : IntKind.i64.wrap (16 * x + y) = 16 * x + y := IntWalk.i64_in _ (by omega)
  go_wp2_with fail
  go_quiet (first | (go_at_call 82; with_reducible exact Calls.quiet_of_same (C1.out _)) | (go_at_call 82; with_reducible exact Calls.quiet_of_same (C2.out _)))
  go_wp2_with fail
  go_ret
  exact ⟨rfl, _, rfl⟩

end RefSbox
end Go.Proofs.YtgfdomdbjiflmaaGreatDoor
