/- Joined texts. -/
-- PACK: YtlmnidpcdibnkaaRefDig
import Derived.Test.YtlmnidpcdibnkaaPk2
import Derived.Test.YtlmnidpcdibnkaaPk1
import Derived.Test.YtlmnidpcdibnkaaPk4
import Derived.Laws.BytesArg
import Derived.Deep.QuietTactic
import Derived.BigQuiet
import Derived.Deep.OwnRows
import Derived.Deep.Draws

/- The walks of the reference of package digits: Value and Unhex. -/
namespace Go.Proofs.Ytlmnidpcdibnkaa
open Go.RowKit
namespace RefDig

set_option maxRecDepth 100000 in
set_option maxHeartbeats 400000 in
theorem value_any (c : Nat) (w : World) (hc : c < 256) (V : Int) (hV : V = Dig.val c) :
    Calls Try.prog 59 #[.int .u8 (c : Int)] w fun e w' => e = .returned (.int .i64 V) ∧ w = w' := by
  have HV := Lib.hid hV
  clear hV
  go_enter Try.func59, Try.ntmps59
  go_wp2
  go_loop [3] (fun i => ∃ k : Nat, k ≤ 16 ∧ i = .int .i64 (k : Int) ∧ Hid (∀ j, j < k → (Dig.sign j).toNat ≠ c)) (fun i => 16 - (intOf i).toNat)
  case atStart => exact ⟨0, by omega, rfl, Lib.hid (fun j hj => by omega)⟩
  case round =>
    obtain ⟨k, hk, rfl, HN⟩ := hrel
    by_cases hlt : k < 16
    · have hsg := Dig.sign_at k hlt
      have HSG := Lib.hid hsg
      obtain ⟨d, hd⟩ : ∃ d, d = (Dig.sign k).toNat := ⟨_, rfl⟩
      have hdd := congrArg UInt8.toNat hsg
      rw [← hd] at hdd
      have HD := Lib.hid hd
      have hd256 : d < 256 := by rw [hd]; exact (Dig.sign k).toNat_lt
      clear hsg hd
      by_cases heq : d = c
      · have hval := Dig.val_sign c k hlt (by rw [← HD.out]; exact heq)
        have hV0 : V = (k : Int) := by rw [HV.out, hval]
        subst heq
        have HV0 := Lib.hid hV0
        clear hV0 hval
        go_wp2_with fail
        go_ret
        rw [HV0.out]
        exact ⟨rfl, rfl⟩
      · have hb : ((d : Int) == (c : Int)) = false := by rw [beq_eq_false_iff_ne]; omega
        have HE := Lib.hid heq
        clear heq
        go_wp2_with fail
        go_round
        case rel =>
          refine ⟨k + 1, by omega, by go_num, Lib.hid (fun j hj => ?_)⟩
          by_cases hjk : j < k
          · exact HN.out j hjk
          · obtain rfl : j = k := by omega
            rw [← HD.out]; exact HE.out
        case measure => simp [intOf]; omega
    · obtain rfl : k = 16 := by omega
      have hV0 : V = -1 := by rw [HV.out, Dig.val_none c hc HN.out]
      subst hV0
      go_wp2_with fail
      go_ret
      exact ⟨rfl, rfl⟩

set_option maxRecDepth 100000 in
theorem qval (c : Nat) (hc : c < 256) (h : Int) (hh : Dig.val c = h) (W : World) : Calls Try.prog 59 #[.int .u8 (c : Int)] W fun e w' => e = .returned (.int .i64 h) ∧ w' = W :=
  (value_any c W hc h hh.symm).mono fun _ _ ⟨he, hw⟩ => ⟨he, hw.symm⟩

theorem sign_cut (d : Nat) (h : d < 16) : (⟨#[48, 49, 50, 51, 52, 53, 54, 55, 56, 57, 65, 66, 67, 68, 69, 70]⟩ : ByteArray).extract d (d + 1) = bs [Dig.sign d] := by
  rcases (show d = 0 ∨ d = 1 ∨ d = 2 ∨ d = 3 ∨ d = 4 ∨ d = 5 ∨ d = 6 ∨ d = 7 ∨ d = 8 ∨ d = 9 ∨ d = 10 ∨ d = 11 ∨ d = 12 ∨ d = 13 ∨ d = 14 ∨ d = 15 by omega) with rfl | rfl | rfl | rfl | rfl | rfl | rfl | rfl | rfl | rfl | rfl | rfl | rfl | rfl | rfl | rfl <;> rfl
theorem hex_snoc (l : List UInt8) (c : UInt8) : Dig.hexL (l ++ [c]) = Dig.hexL l ++ [Dig.sign (c.toNat / 16), Dig.sign (c.toNat % 16)] := by
  unfold Dig.hexL; rw [List.flatMap_append]; rfl

set_option maxRecDepth 100000 in
set_option maxHeartbeats 1000000 in
theorem hex_any (s : ByteArray) (w : World) (hm : s.size ≤ 70368744177664) (X : ByteArray) (hX : X = bs (Dig.hexL s.data.toList)) :
    Calls Try.prog 44 #[.string s] w fun e w' => e = .returned (.string X) ∧ Since w w' := by
  have HX := Lib.hid hX
  clear hX
  go_enter Try.func44, Try.ntmps44
  go_wp2
  go_loopw [3, 4] (fun o i wr => ∃ k : Nat, k ≤ s.size ∧ i = .int .i64 (k : Int) ∧ (∃ S : ByteArray, o = .string S ∧ S.size ≤ 2 * k ∧ Hid (S = bs (Dig.hexL (s.data.toList.take k)))) ∧ Hid (Since w wr)) (fun _ i _ => s.size - (intOf i).toNat)
  case atStart => exact ⟨0, by omega, rfl, ⟨⟨#[]⟩, rfl, Nat.le_refl _, Lib.hid rfl⟩, Lib.hid (Since.refl w)⟩
  case round =>
    obtain ⟨k, hk, rfl, ⟨S, rfl, hS, HSS⟩, HS⟩ := hrel
    by_cases hlt : k < s.size
    · have hst : Dig.hexL (s.data.toList.take (k + 1)) = Dig.hexL (s.data.toList.take k) ++ [Dig.sign (s[k].toNat / 16), Dig.sign (s[k].toNat % 16)] := by
        rw [List.take_succ_eq_append_getElem (by simpa using hlt), hex_snoc]; rfl
      obtain ⟨c, hc⟩ : ∃ c, s[k].toNat = c := ⟨_, rfl⟩
      have hc2 : c < 256 := by rw [← hc]; exact s[k].toNat_lt
      rw [hc] at hst
      obtain ⟨A, hA⟩ : ∃ A, c / 16 = A := ⟨_, rfl⟩
      obtain ⟨B, hB⟩ : ∃ B, c % 16 = B := ⟨_, rfl⟩
      rw [hA, hB] at hst
      have hA2 : A < 16 := by omega
      have hB2 : B < 16 := by omega
      have qA : (c : Int) / 16 = (A : Int) := by omega
      have qB : (c : Int) % 16 = (B : Int) := by omega
      have x1 := sign_cut A hA2
      have x2 := sign_cut B hB2
      have z1 : ¬ 9223372036854775807 < S.size + (bs [Dig.sign A]).size := by rw [size_bs]; simp; omega
      have z2 : ¬ 9223372036854775807 < (S ++ bs [Dig.sign A]).size + (bs [Dig.sign B]).size := by
        have h9 : (S ++ bs [Dig.sign A]).size = S.size + 1 := by
          have h8 := congrArg List.length (app_list S (bs [Dig.sign A]))
          rw [List.length_append, list_bs] at h8
          exact h8
        rw [size_bs, h9]; simp; omega
      have e1 : IntKind.i64.wrap ((A : Int) + 1) = (A : Int) + 1 := IntWalk.i64_in _ (by omega)
      have e2 : IntKind.i64.wrap ((B : Int) + 1) = (B : Int) + 1 := IntWalk.i64_in _ (by omega)
      have n1 : ((A : Int) + 1).toNat = A + 1 := by omega
      have n2 : ((B : Int) + 1).toNat = B + 1 := by omega
      have HST := Lib.hid hst
      clear hst hA hB
      go_wp2_with fail
      go_quiet (fail)
      clear e1 e2 n1 n2
      go_wp2_with fail
      go_roundw
      case rel =>
        refine ⟨k + 1, by omega, by go_num, ⟨_, rfl, ?_, Lib.hid ?_⟩, Lib.hid (Since.step (w' := wr.drewN _) HS.out ⟨rfl, rfl, rfl, Nat.le_refl _, fun _ _ => rfl⟩)⟩
        · have h8 := congrArg List.length (app_list (S ++ bs [Dig.sign A]) (bs [Dig.sign B]))
          have h7 := congrArg List.length (app_list S (bs [Dig.sign A]))
          rw [List.length_append, list_bs] at h8 h7
          have h9 : (S ++ bs [Dig.sign A] ++ bs [Dig.sign B]).size = (S ++ bs [Dig.sign A]).size + 1 := h8
          have h6 : (S ++ bs [Dig.sign A]).size = S.size + 1 := h7
          rw [h9, h6]; omega
        · apply ba_ext
          rw [app_list, app_list, list_bs, list_bs, list_bs, HSS.out, list_bs, HST.out]
          simp
      case measure => simp [intOf]; omega
    · obtain rfl : k = s.size := by omega
      have hX0 : X = S := by rw [HX.out, HSS.out, List.take_of_length_le (by simp)]
      subst hX0
      go_wp2_with fail
      go_ret
      exact ⟨rfl, HS.out⟩

end RefDig
end Go.Proofs.Ytlmnidpcdibnkaa
