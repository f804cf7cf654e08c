/- Joined texts. -/
-- PACK: YtgbfdgopinnlbaaRefDigU YtgbfdgopinnlbaaRefSbox
import Derived.Test.YtgbfdgopinnlbaaPk4
import Derived.Test.YtgbfdgopinnlbaaPk2
import Derived.Test.YtgbfdgopinnlbaaPk6
import Derived.Laws.BytesArg
import Derived.Deep.QuietTactic
import Derived.BigQuiet
import Derived.Deep.OwnRows
import Derived.Deep.Draws
import Derived.Test.YtgbfdgopinnlbaaPk10

/- The walks of the reference of package digits: Value and Unhex. -/
namespace Go.Proofs.Ytgbfdgopinnlbaa
open Go.RowKit
namespace RefDig

set_option maxRecDepth 100000 in
set_option maxHeartbeats 400000 in
theorem value_any (c : Nat) (w : World) (hc : c < 256) (V : Int) (hV : V = Dig.val c) :
    Calls Try.prog 163 #[.int .u8 (c : Int)] w fun e w' => e = .returned (.int .i64 V) ∧ w = w' := by
  have HV := Lib.hid hV
  clear hV
  go_enter Try.func163, Try.ntmps163
  go_wp2
  go_loop [3] (fun i => ∃ k : Nat, k ≤ 16 ∧ i = .int .i64 (k : Int) ∧ Hid (∀ j, j < k → (Dig.sign j).toNat ≠ c)) (fun i => 16 - (intOf i).toNat)
  case atStart => exact ⟨0, by omega, rfl, Lib.hid (fun j hj => by omega)⟩
  case round =>
    obtain ⟨k, hk, rfl, HN⟩ := hrel
    by_cases hlt : k < 16
    · have hsg := Dig.sign_at k hlt
      have HSG := Lib.hid hsg
      obtain ⟨d, hd⟩ : ∃ d, d = (Dig.sign k).toNat := ⟨_, rfl⟩
      have hdd := congrArg UInt8.toNat hsg
      rw [← hd] at hdd
      have HD := Lib.hid hd
      have hd256 : d < 256 := by rw [hd]; exact (Dig.sign k).toNat_lt
      clear hsg hd
      by_cases heq : d = c
      · have hval := Dig.val_sign c k hlt (by rw [← HD.out]; exact heq)
        have hV0 : V = (k : Int) := by rw [HV.out, hval]
        subst heq
        have HV0 := Lib.hid hV0
        clear hV0 hval
        go_wp2_with fail
        go_ret
        rw [HV0.out]
        exact ⟨rfl, rfl⟩
      · have hb : ((d : Int) == (c : Int)) = false := by rw [beq_eq_false_iff_ne]; omega
        have HE := Lib.hid heq
        clear heq
        go_wp2_with fail
        go_round
        case rel =>
          refine ⟨k + 1, by omega, by go_num, Lib.hid (fun j hj => ?_)⟩
          by_cases hjk : j < k
          · exact HN.out j hjk
          · obtain rfl : j = k := by omega
            rw [← HD.out]; exact HE.out
        case measure => simp [intOf]; omega
    · obtain rfl : k = 16 := by omega
      have hV0 : V = -1 := by rw [HV.out, Dig.val_none c hc HN.out]
      subst hV0
      go_wp2_with fail
      go_ret
      exact ⟨rfl, rfl⟩

set_option maxRecDepth 100000 in
theorem qval (c : Nat) (hc : c < 256) (h : Int) (hh : Dig.val c = h) (W : World) : Calls Try.prog 163 #[.int .u8 (c : Int)] W fun e w' => e = .returned (.int .i64 h) ∧ w' = W :=
  (value_any c W hc h hh.symm).mono fun _ _ ⟨he, hw⟩ => ⟨he, hw.symm⟩

end RefDig
end Go.Proofs.Ytgbfdgopinnlbaa

/- The walks of the reference of package sbox: Sub, Back, Subs, Backs, Table. -/
namespace Go.Proofs.Ytgbfdgopinnlbaa
open Go.RowKit
namespace RefSbox
open Sbox (Rdr sub back sub_lt back_lt)

set_option maxRecDepth 100000 in
set_option maxHeartbeats 4000000 in
theorem sub_rdr (a : Nat) (ha : a ≤ 255) : Rdr 153 #[.int .u8 (a : Int)] (.int .u8 ((sub a : Nat) : Int)) := by
  intro w
  go_enter Try.func153, Try.ntmps153
  generalize hT : ByteArray.mk (List.toArray (_ ++ _)) = T
  have hall : (List.range 256).all (fun a => Dig.pairV T.data.toList a == ((sub a : Nat) : Int)) = true := by rw [← hT]; decide +kernel
  have hsz : T.size = 512 := by rw [← hT]; rfl
  have hp : Dig.pairV T.data.toList a = ((sub a : Nat) : Int) := by
    have h := List.all_eq_true.1 hall a (List.mem_range.2 (by omega))
    exact beq_iff_eq.1 h
  clear hall hT
  have hlt := sub_lt a
  generalize sub a = v at *
  have k1 : 2 * a < T.size := by omega
  have k2 : 2 * a + 1 < T.size := by omega
  have hp2 : Dig.pairV T.data.toList a = 16 * Dig.hi T.data.toList a + Dig.lo T.data.toList a := rfl
  obtain ⟨b, hb⟩ : ∃ b, T[2 * a].toNat = b := ⟨_, rfl⟩
  obtain ⟨c, hc⟩ : ∃ c, T[2 * a + 1].toNat = c := ⟨_, rfl⟩
  have hb2 : b < 256 := by rw [← hb]; exact T[2 * a].toNat_lt
  have hc2 : c < 256 := by rw [← hc]; exact T[2 * a + 1].toNat_lt
  have hvb : Dig.val b = Dig.hi T.data.toList a := by unfold Dig.hi; rw [Dig.getD_at T _ k1, hb]
  have hvc : Dig.val c = Dig.lo T.data.toList a := by unfold Dig.lo; rw [Dig.getD_at T _ k2, hc]
  have vb := Dig.val_lt b
  have vc := Dig.val_lt c
  rw [hvb] at vb
  rw [hvc] at vc
  have C1 := Lib.hid (fun W => RefDig.qval b hb2 _ hvb W)
  have C2 := Lib.hid (fun W => RefDig.qval c hc2 _ hvc W)
  clear hvb hvc
  rw [hp2] at hp
  clear hp2
  generalize Dig.hi T.data.toList a = x at *
  generalize Dig.lo T.data.toList a = y at *
  have e2 : IntKind.i64.wrap (2 * (a : Int) + 1) = 2 * (a : Int) + 1 := IntWalk.i64_in _ (by omega)
  have n1 : (2 * (a : Int)).toNat = 2 * a := by omega
  have n2 : (2 * (a : Int) + 1).toNat = 2 * a + 1 := by omega
  have q1 : (0 : Int) ≤ 2 * (a : Int) := by omega
  have q2 : (0 : Int) ≤ 2 * (a : Int) + 1 := by omega
  have l1 : 2 * (a : Int) < (T.size : Int) := by omega
  have l2 : 2 * (a : Int) + 1 < (T.size : Int) := by omega
  have e3 : IntKind.u8.wrap (16 * x + y) = (v : Int) := by rw [hp]; simp [IntKind.wrap, IntKind.bits, IntKind.signed]; omega
  have e4 : IntKind.i64.wrap (16 * x) = 16 * x := IntWalk.i64_in _ (by omega)
  have e5 : IntKind.i64.wrap (16 * x + y) = 16 * x + y := IntWalk.i64_in _ (by omega)
  go_wp2_with fail
  go_quiet (first | (go_at_call 163; with_reducible exact Calls.quiet_of_same (C1.out _)) | (go_at_call 163; with_reducible exact Calls.quiet_of_same (C2.out _)))
  go_wp2_with fail
  go_ret
  exact ⟨rfl, _, rfl⟩

set_option maxRecDepth 100000 in
set_option maxHeartbeats 4000000 in
theorem back_rdr (a : Nat) (ha : a ≤ 255) : Rdr 156 #[.int .u8 (a : Int)] (.int .u8 ((back a : Nat) : Int)) := by
  intro w
  go_enter Try.func156, Try.ntmps156
  generalize hT : ByteArray.mk (List.toArray (_ ++ _)) = T
  have hall : (List.range 256).all (fun a => Dig.pairV T.data.toList a == ((back a : Nat) : Int)) = true := by rw [← hT]; decide +kernel
  have hsz : T.size = 512 := by rw [← hT]; rfl
  have hp : Dig.pairV T.data.toList a = ((back a : Nat) : Int) := by
    have h := List.all_eq_true.1 hall a (List.mem_range.2 (by omega))
    exact beq_iff_eq.1 h
  clear hall hT
  have hlt := back_lt a
  generalize back a = v at *
  have k1 : 2 * a < T.size := by omega
  have k2 : 2 * a + 1 < T.size := by omega
  have hp2 : Dig.pairV T.data.toList a = 16 * Dig.hi T.data.toList a + Dig.lo T.data.toList a := rfl
  obtain ⟨b, hb⟩ : ∃ b, T[2 * a].toNat = b := ⟨_, rfl⟩
  obtain ⟨c, hc⟩ : ∃ c, T[2 * a + 1].toNat = c := ⟨_, rfl⟩
  have hb2 : b < 256 := by rw [← hb]; exact T[2 * a].toNat_lt
  have hc2 : c < 256 := by rw [← hc]; exact T[2 * a + 1].toNat_lt
  have hvb : Dig.val b = Dig.hi T.data.toList a := by unfold Dig.hi; rw [Dig.getD_at T _ k1, hb]
  have hvc : Dig.val c = Dig.lo T.data.toList a := by unfold Dig.lo; rw [Dig.getD_at T _ k2, hc]
  have vb := Dig.val_lt b
  have vc := Dig.val_lt c
  rw [hvb] at vb
  rw [hvc] at vc
  have C1 := Lib.hid (fun W => RefDig.qval b hb2 _ hvb W)
  have C2 := Lib.hid (fun W => RefDig.qval c hc2 _ hvc W)
  clear hvb hvc
  rw [hp2] at hp
  clear hp2
  generalize Dig.hi T.data.toList a = x at *
  generalize Dig.lo T.data.toList a = y at *
  have e2 : IntKind.i64.wrap (2 * (a : Int) + 1) = 2 * (a : Int) + 1 := IntWalk.i64_in _ (by omega)
  have n1 : (2 * (a : Int)).toNat = 2 * a := by omega
  have n2 : (2 * (a : Int) + 1).toNat = 2 * a + 1 := by omega
  have q1 : (0 : Int) ≤ 2 * (a : Int) := by omega
  have q2 : (0 : Int) ≤ 2 * (a : Int) + 1 := by omega
  have l1 : 2 * (a : Int) < (T.size : Int) := by omega
  have l2 : 2 * (a : Int) + 1 < (T.size : Int) := by omega
  have e3 : IntKind.u8.wrap (16 * x + y) = (v : Int) := by rw [hp]; simp [IntKind.wrap, IntKind.bits, IntKind.signed]; omega
  have e4 : IntKind.i64.wrap (16 * x) = 16 * x := IntWalk.i64_in _ (by omega)
  have e5 : IntKind.i64.wrap (16 * x + y) = 16 * x + y := IntWalk.i64_in _ (by omega)
  go_wp2_with fail
  go_quiet (first | (go_at_call 163; with_reducible exact Calls.quiet_of_same (C1.out _)) | (go_at_call 163; with_reducible exact Calls.quiet_of_same (C2.out _)))
  go_wp2_with fail
  go_ret
  exact ⟨rfl, _, rfl⟩
end RefSbox
end Go.Proofs.Ytgbfdgopinnlbaa
