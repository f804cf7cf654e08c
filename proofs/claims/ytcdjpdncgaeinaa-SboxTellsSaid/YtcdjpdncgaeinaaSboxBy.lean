/- The law SboxBy: each byte stands for what the field says; no conditions. -/
import Derived.Test.YtcdjpdncgaeinaaRows
import Derived.WalkKit
import Derived.ProofKit
import Derived.OpenShut
import Derived.Lib.Hide
import Derived.Test.YtcdjpdncgaeinaaBase
import Derived.Test.YtcdjpdncgaeinaaRefField
import Derived.Test.YtcdjpdncgaeinaaSbox
import Derived.Test.YtcdjpdncgaeinaaSboxOnce
namespace Go.Proofs.Ytcdjpdncgaeinaa
namespace RefSbox
open Go.RowKit

/-- a byte doubled around, k times -/
def rt (a : Nat) : Nat → Nat
  | 0 => a
  | k+1 => if rt a k * 2 > 255 then rt a k * 2 - 255 else rt a k * 2
theorem rt_all : (List.range 256).all (fun a => (List.range 8).all fun k => decide (rt a k ≤ 255) && (a == 255 || rt a k == Sbox.turn a k) && (a != 255 || rt a k == 255 && Sbox.turn a k == 255)) = true := by decide +kernel
theorem rt_turn (a k : Nat) (ha : a < 256) (hk : k < 8) : rt a k ≤ 255 ∧ rt a k = Sbox.turn a k := by
  have h := List.all_eq_true.1 (List.all_eq_true.1 rt_all a (List.mem_range.2 ha)) k (List.mem_range.2 hk)
  simp only [Bool.and_eq_true, Bool.or_eq_true, decide_eq_true_eq, beq_iff_eq, bne_iff_ne] at h
  obtain ⟨⟨h1, h2⟩, h3⟩ := h
  refine ⟨h1, ?_⟩
  rcases h2 with h2 | h2
  · rcases h3 with h3 | h3
    · exact absurd h2 h3
    · rw [h3.1, h3.2]
  · exact h2

set_option maxHeartbeats 400000 in
theorem turn_ret (a : Nat) (n : Int) (ha : a ≤ 255) (hn : -9223372036854775808 ≤ n ∧ n ≤ 9223372036854775807) :
    Ret 26 #[.int .u8 (a : Int), .int .i64 n] (.int .u8 ((Sbox.turn a (n % 8).toNat : Nat) : Int)) := by
  intro w
  obtain ⟨k, hkk⟩ := Int.eq_ofNat_of_zero_le (show 0 ≤ n % 8 by omega)
  have hk8 : k < 8 := by omega
  have hfin : (n % 8).toNat = k := by rw [hkk]; rfl
  rw [hfin, ← (rt_turn a k (by omega) hk8).2]
  have ht : -7 ≤ n.tmod 8 ∧ n.tmod 8 ≤ 7 := by
    rw [Int.tmod_eq_emod]; split <;> omega
  obtain ⟨ht1, ht2⟩ := ht
  have hneg : n.tmod 8 < 0 → n.tmod 8 + 8 = (k : Int) := by
    rw [Int.tmod_eq_emod, hkk]; split <;> omega
  have hpos : ¬ n.tmod 8 < 0 → n.tmod 8 = (k : Int) := by
    rw [Int.tmod_eq_emod, hkk]; split <;> omega
  clear hkk hfin
  by_cases hs : n.tmod 8 < 0
  · have he := hneg hs
    clear hneg hpos
    go_enter Try.func26, Try.ntmps26
    go_wp2
    go_loop [5, 6] (fun x i => ∃ j : Nat, j ≤ k ∧ i = .int .i64 (j : Int) ∧ x = .int .i64 ((rt a j : Nat) : Int)) (fun _ i => k - (intOf i).toNat)
    case atStart => exact ⟨0, by omega, rfl, rfl⟩
    case round =>
      obtain ⟨j, hj, rfl, rfl⟩ := hrel
      have hr := (rt_turn a j (by omega) (by omega)).1
      by_cases hlt : j < k
      · have hst : rt a (j + 1) = if rt a j * 2 > 255 then rt a j * 2 - 255 else rt a j * 2 := rfl
        generalize rt a j = q at *
        by_cases hq : q * 2 > 255
        · rw [if_pos hq] at hst
          have HST := Lib.hid hst
          clear hst
          go_wp2_with fail
          go_round
          case rel => exact ⟨j + 1, by omega, by go_num, by rw [HST.out]; congr 1; omega⟩
          case measure => simp [intOf]; omega
        · rw [if_neg hq] at hst
          have HST := Lib.hid hst
          clear hst
          go_wp2_with fail
          go_round
          case rel => exact ⟨j + 1, by omega, by go_num, by rw [HST.out]; congr 1⟩
          case measure => simp [intOf]; omega
      · obtain rfl : j = k := by omega
        go_wp2_with fail
        go_ret
        exact ⟨rfl, rfl⟩
  · have he := hpos hs
    clear hneg hpos
    go_enter Try.func26, Try.ntmps26
    go_wp2
    go_loop [5, 6] (fun x i => ∃ j : Nat, j ≤ k ∧ i = .int .i64 (j : Int) ∧ x = .int .i64 ((rt a j : Nat) : Int)) (fun _ i => k - (intOf i).toNat)
    case atStart => exact ⟨0, by omega, rfl, rfl⟩
    case round =>
      obtain ⟨j, hj, rfl, rfl⟩ := hrel
      have hr := (rt_turn a j (by omega) (by omega)).1
      by_cases hlt : j < k
      · have hst : rt a (j + 1) = if rt a j * 2 > 255 then rt a j * 2 - 255 else rt a j * 2 := rfl
        generalize rt a j = q at *
        by_cases hq : q * 2 > 255
        · rw [if_pos hq] at hst
          have HST := Lib.hid hst
          clear hst
          go_wp2_with fail
          go_round
          case rel => exact ⟨j + 1, by omega, by go_num, by rw [HST.out]; congr 1; omega⟩
          case measure => simp [intOf]; omega
        · rw [if_neg hq] at hst
          have HST := Lib.hid hst
          clear hst
          go_wp2_with fail
          go_round
          case rel => exact ⟨j + 1, by omega, by go_num, by rw [HST.out]; congr 1⟩
          case measure => simp [intOf]; omega
      · obtain rfl : j = k := by omega
        go_wp2_with fail
        go_ret
        exact ⟨rfl, rfl⟩

theorem add_ret (a b : Nat) (h1 : a ≤ 255) (g1 : b ≤ 255) : Ret 12 #[.int .u8 (a : Int), .int .u8 (b : Int)] (.int .u8 ((a ^^^ b : Nat) : Int)) := fun w => RefField.add_ret a b w h1 g1
theorem inv_ret (a : Nat) (h1 : a ≤ 255) : Ret 20 #[.int .u8 (a : Int)] (.int .u8 ((Gf.inv a : Nat) : Int)) := fun w => RefField.inv_ret a w h1
/-- the sum after k turns -/
def want (b : Nat) : Nat → Nat
  | 0 => 99
  | k+1 => want b k ^^^ Sbox.turn b k
theorem want_all : (List.range 256).all (fun b => want b 5 == Sbox.mix b) = true := by decide +kernel
theorem want_lt (b k : Nat) (hb : b < 256) (hk : k ≤ 5) : want b k < 256 := by
  induction k with
  | zero => show (99 : Nat) < 256; decide
  | succ k ih => exact Nat.xor_lt_two_pow (n := 8) (ih (by omega)) (Sbox.turn_lt _ _ hb (by omega))
end RefSbox

namespace sboxBy
open Go.ChangeShapes Go.WideShapes Go.ChangeAt Go.RowKit
open RefSbox
attribute [local irreducible] Gf.mul Gf.inv Gf.pow Gf.logN Gf.logB Gf.xt Sbox.turn Sbox.mixK Sbox.mix Sbox.sub Sbox.back

set_option maxRecDepth 100000 in
set_option maxHeartbeats 1000000 in
theorem walk (a0 : Int) (w0 : (Lit.int .u8 a0).wf = true) (w : World) :
    Calls Try.prog 7 #[.int .u8 a0] w fun e w' => e = .returned (.bool true) ∧ Below w.heap.size w w' := by
  obtain ⟨b0, t0⟩ := u8_of_wf w0
  clear w0
  obtain ⟨x, rfl⟩ := Int.eq_ofNat_of_zero_le b0
  have hx : x ≤ 255 := by omega
  have hfin : want (Gf.inv x) 5 = Sbox.sub x := by
    have h := List.all_eq_true.1 want_all (Gf.inv x) (List.mem_range.2 (Gf.inv_lt x))
    rw [beq_iff_eq] at h
    rw [h, Sbox.sub_mix]
  have HF := Lib.hid hfin
  clear hfin
  have hb := Gf.inv_lt x
  have c0 := inv_ret x hx
  generalize Gf.inv x = b at *
  have c9 := (Sbox.sub_rdr x hx).mak
  go_enter Try.func7, Try.ntmps7
  go_wp2_with fail
  refine c0.calls ?_
  go_wp2_with fail
  go_loop [4, 5] (fun v i => ∃ k : Nat, k ≤ 5 ∧ i = .int .i64 (k : Int) ∧ v = .int .u8 ((want b k : Nat) : Int)) (fun _ i => 5 - (intOf i).toNat)
  case atStart => exact ⟨0, by omega, rfl, rfl⟩
  case round =>
    obtain ⟨k, hk, rfl, rfl⟩ := hrel
    have hw := want_lt b k hb hk
    by_cases hlt : k < 5
    · have ht := Sbox.turn_lt b k hb (by omega)
      have c1 := turn_ret b k (by omega) (by omega)
      rw [show ((k : Int) % 8).toNat = k from by omega] at c1
      have c2 := add_ret (want b k) (Sbox.turn b k) (by omega) (by omega)
      have hst : want b (k + 1) = want b k ^^^ Sbox.turn b k := rfl
      have HST := Lib.hid hst
      clear hst
      go_wp2_with fail
      refine c1.calls ?_
      go_wp2_with fail
      refine c2.calls ?_
      go_wp2_with fail
      go_round
      case rel => exact ⟨k + 1, by omega, by go_num, by rw [HST.out]⟩
      case measure => simp [intOf]; omega
    · obtain rfl : k = 5 := by omega
      rw [HF.out]
      have H0 := Lib.hid (Since.refl w)
      go_wp2_with fail
      refine c9.calls H0.out ?_
      intro w1 h1
      have K1 := Lib.hid h1
      clear h1
      go_wp2_with fail
      refine Sbox.awake_mak.calls K1.out ?_
      intro w2 h2
      have K2 := Lib.hid h2
      clear h2
      go_wp2_with fail
      go_ret
      exact ⟨rfl, K2.out⟩

theorem own : ownKnob Try.prog.godebug = none := by kernel_rfl

set_option maxRecDepth 100000 in
theorem lifted (os : Os) (started : os.Started) (H : Type) (enc : TypeId × Value → H) :
    ReturnsInHanded {} Try.checked os 7 .any (Rows.sboxBySpec.pre6 enc Try.prog Try.f7 Rows.sboxByRow.domain false) (Rows.sboxBySpec.post enc Try.prog Try.f7 false true false false) := by
  refine returnsInHanded_of_change (C := Try.checked) own started (by kernel_rfl) Try.func7
    (ChangeSpec.witness6 (enc := enc) (C := Try.checked) false ⟨#[], #[.int .u8 0], []⟩ 8 (by kernel_rfl) (by kernel_rfl) (by kernel_rfl) (by kernel_rfl)) ?_
  intro W base args ds gs before hval0 hW hcnd _
  have hval : ∀ (j : Nat) t v, Try.f7.params[j]? = some t → args[j]? = some v → Value.okWide Try.prog W .any base t v := hval0
  have hW' := hW
  obtain ⟨p, q, hA0, hV, rfl, hfz, hnd⟩ := hW
  have hA : DataW.TrodAll enc Try.prog W 0 (fun _ => true) true Try.f7.params.toList args.toList ds p := hA0
  rw [Try.params7] at hA hval
  obtain ⟨v0, vs0, d0, ds0, p0, q0, hargs, rfl, rfl, h0, r0⟩ := trodAll_cons hA
  obtain ⟨rfl, rfl, rfl⟩ := trodAll_nil r0
  obtain rfl : args = #[v0] := by cases args; simp_all
  obtain ⟨rfl, rfl⟩ := trodVars_none hV
  obtain ⟨a0, rfl, rfl, rfl, w0⟩ := open_int Try.underlying5 (hval 0 5 v0 rfl rfl) h0
  clear hA0 hval0
  simp only [List.append_nil] at hW'
  refine (walk a0 w0 W).mono fun e W' ⟨he, hg⟩ => ?_
  subst he
  exact ⟨_, rfl, _, _, _, _, _, [], hW', (trodAll_cons_mk (shut_bool Try.underlying4 _) trodAll_mk0), (trodAll_cons_mk (shut_int Try.underlying5 w0) trodAll_mk0), rfl, hg.frame _, fun h => by cases h⟩

theorem over : Rows.sboxByRow.holds Try.pinned (OpenSpec.ofChange Rows.sboxBySpec) :=
  OpenClaim.holds_of_wide 7 Try.f7 rfl rfl rfl rfl rfl rfl rfl ⟨rfl, rfl, rfl, rfl, rfl⟩ rfl rfl rfl rfl rfl (by kernel_rfl) Try.func7 (by kernel_rfl)
    (of_decide_eq_true (by kernel_rfl)) (by unfold Func.isWrapper; first | (rw [if_pos (by decide +kernel)]; kernel_rfl) | (rw [if_neg (by decide +kernel)]; exact ⟨rfl, rfl⟩))
    (fun os started H enc _ => lifted os started H enc)

theorem proved : Rows.SboxBySaid :=
  over

end sboxBy
end Go.Proofs.Ytcdjpdncgaeinaa
