/- The law FieldDots: for all texts the sum of products is that of the reference; no conditions. -/
import Derived.Test.YtcdjpdncgaeinaaRows
import Derived.WalkKit
import Derived.ProofKit
import Derived.OpenShut
import Derived.Lib.Hide
import Derived.Deep.QuietTactic
import Derived.BigQuiet
import Derived.Deep.Draws
import Derived.Test.YtcdjpdncgaeinaaBase
import Derived.Test.YtcdjpdncgaeinaaField
import Derived.Test.YtcdjpdncgaeinaaRefField
import Derived.Test.YtcdjpdncgaeinaaFieldLaws
namespace Go.Proofs.Ytcdjpdncgaeinaa.fieldDots
open Go.ChangeShapes Go.WideShapes Go.ChangeAt Go.RowKit
attribute [local irreducible] Gf.mul Gf.inv Gf.pow Gf.logN Gf.logB Gf.xt

/-- after k products -/
def dot (s t : List UInt8) : Nat → Nat
  | 0 => 0
  | k+1 => dot s t k ^^^ Gf.mul (s.getD k 0).toNat (t.getD k 0).toNat
theorem dot_lt (s t : List UInt8) (k : Nat) : dot s t k < 256 := by
  induction k with
  | zero => show (0 : Nat) < 256; decide
  | succ k ih => exact Nat.xor_lt_two_pow (n := 8) ih (Gf.mul_lt _ _ (s.getD k 0).toNat_lt)
theorem getD_at (s : ByteArray) (k : Nat) (h : k < s.size) : s.data.toList.getD k 0 = s[k] := by
  simp [List.getD, List.getElem?_eq_getElem (show k < s.data.toList.length from h)]; rfl

theorem quiet_mul2 (a b m : Nat) (h1 : a ≤ 255) (g1 : b ≤ 255) (hm : Gf.mul a b = m) (W : World) :
    Calls Try.prog 15 #[.int .u8 (a : Int), .int .u8 (b : Int)] W fun e w' => e = .returned (.int .u8 (m : Int)) ∧ w' = W := by
  have h := Field.mul_any a b W (by omega) (by omega) (by omega) (by omega)
  rw [Int.toNat_natCast, Int.toNat_natCast, hm] at h
  exact h.mono fun _ _ ⟨he, hw⟩ => ⟨he, hw.symm⟩
theorem quiet_add2 (a b : Nat) (h1 : a ≤ 255) (g1 : b ≤ 255) (W : World) :
    Calls Try.prog 11 #[.int .u8 (a : Int), .int .u8 (b : Int)] W fun e w' => e = .returned (.int .u8 ((a ^^^ b : Nat) : Int)) ∧ w' = W := by
  have h := Field.add_any a b W (by omega) (by omega) (by omega) (by omega)
  rw [Int.toNat_natCast, Int.toNat_natCast] at h
  exact h.mono fun _ _ ⟨he, hw⟩ => ⟨he, hw.symm⟩

set_option maxRecDepth 100000 in
set_option maxHeartbeats 1000000 in
theorem dot_le (s t : ByteArray) (w : World) (hc : s.size ≤ t.size) (hm : s.size ≤ 140737488355328) (hm2 : t.size ≤ 140737488355328) :
    Calls Try.prog 22 #[.string s, .string t] w fun e w' => e = .returned (.int .u8 ((dot s.data.toList t.data.toList s.size : Nat) : Int)) ∧ ∃ q, w' = w.drewN q := by
  go_enter Try.func22, Try.ntmps22
  go_wp2
  go_loopw [5, 12] (fun p i wr => ∃ k : Nat, k ≤ s.size ∧ i = .int .i64 (k : Int) ∧ p = .int .u8 ((dot s.data.toList t.data.toList k : Nat) : Int) ∧ ∃ q, Hid (wr = w.drewN q)) (fun _ i _ => s.size - (intOf i).toNat)
  case atStart => exact ⟨0, by omega, rfl, rfl, 0, Lib.hid rfl⟩
  case round =>
    obtain ⟨k, hk, rfl, rfl, q, HW⟩ := hrel
    by_cases hlt : k < s.size
    · have hks : k < s.size := by omega
      have hkt : k < t.size := by omega
      have hd := dot_lt s.data.toList t.data.toList k
      have hs1 := s[k].toNat_lt
      have ht1 := t[k].toNat_lt
      have hml := Gf.mul_lt s[k].toNat t[k].toNat hs1
      have hst : dot s.data.toList t.data.toList (k + 1) = dot s.data.toList t.data.toList k ^^^ Gf.mul s[k].toNat t[k].toNat := by
        rw [← getD_at s k hks, ← getD_at t k hkt]; rfl
      have HS := Lib.hid hst
      clear hst
      generalize dot s.data.toList t.data.toList k = d at *
      generalize hmm : Gf.mul s[k].toNat t[k].toNat = m at *
      have c1 := fun W => quiet_mul2 s[k].toNat t[k].toNat m (by omega) (by omega) hmm W
      have c2 := fun W => quiet_add2 d m (by omega) (by omega) W
      have C1 := Lib.hid c1
      have C2 := Lib.hid c2
      clear c1 c2 hmm
      go_wp2_with fail
      go_quiet (first | (go_at_call 15; exact Calls.quiet_of_same (C1.out _)) | (go_at_call 11; exact Calls.quiet_of_same (C2.out _)))
      go_wp2_with fail
      go_roundw
      case rel => exact ⟨k + 1, by omega, by go_num, by rw [HS.out], _, Lib.hid (by rw [HW.out, World.drewN_drewN])⟩
      case measure => simp [intOf]; omega
    · obtain rfl : k = s.size := by omega
      go_wp2_with fail
      go_ret
      exact ⟨rfl, q, HW.out⟩

set_option maxRecDepth 100000 in
set_option maxHeartbeats 1000000 in
theorem dot_gt (s t : ByteArray) (w : World) (hc : t.size < s.size) (hm : s.size ≤ 140737488355328) (hm2 : t.size ≤ 140737488355328) :
    Calls Try.prog 22 #[.string s, .string t] w fun e w' => e = .returned (.int .u8 ((dot s.data.toList t.data.toList t.size : Nat) : Int)) ∧ ∃ q, w' = w.drewN q := by
  go_enter Try.func22, Try.ntmps22
  go_wp2
  go_loopw [5, 12] (fun p i wr => ∃ k : Nat, k ≤ t.size ∧ i = .int .i64 (k : Int) ∧ p = .int .u8 ((dot s.data.toList t.data.toList k : Nat) : Int) ∧ ∃ q, Hid (wr = w.drewN q)) (fun _ i _ => t.size - (intOf i).toNat)
  case atStart => exact ⟨0, by omega, rfl, rfl, 0, Lib.hid rfl⟩
  case round =>
    obtain ⟨k, hk, rfl, rfl, q, HW⟩ := hrel
    by_cases hlt : k < t.size
    · have hks : k < s.size := by omega
      have hkt : k < t.size := by omega
      have hd := dot_lt s.data.toList t.data.toList k
      have hs1 := s[k].toNat_lt
      have ht1 := t[k].toNat_lt
      have hml := Gf.mul_lt s[k].toNat t[k].toNat hs1
      have hst : dot s.data.toList t.data.toList (k + 1) = dot s.data.toList t.data.toList k ^^^ Gf.mul s[k].toNat t[k].toNat := by
        rw [← getD_at s k hks, ← getD_at t k hkt]; rfl
      have HS := Lib.hid hst
      clear hst
      generalize dot s.data.toList t.data.toList k = d at *
      generalize hmm : Gf.mul s[k].toNat t[k].toNat = m at *
      have c1 := fun W => quiet_mul2 s[k].toNat t[k].toNat m (by omega) (by omega) hmm W
      have c2 := fun W => quiet_add2 d m (by omega) (by omega) W
      have C1 := Lib.hid c1
      have C2 := Lib.hid c2
      clear c1 c2 hmm
      go_wp2_with fail
      go_quiet (first | (go_at_call 15; exact Calls.quiet_of_same (C1.out _)) | (go_at_call 11; exact Calls.quiet_of_same (C2.out _)))
      go_wp2_with fail
      go_roundw
      case rel => exact ⟨k + 1, by omega, by go_num, by rw [HS.out], _, Lib.hid (by rw [HW.out, World.drewN_drewN])⟩
      case measure => simp [intOf]; omega
    · obtain rfl : k = t.size := by omega
      go_wp2_with fail
      go_ret
      exact ⟨rfl, q, HW.out⟩

theorem rquiet_mul (a b m : Nat) (h1 : a ≤ 255) (g1 : b ≤ 255) (hm : Gf.mul a b = m) (W : World) :
    Calls Try.prog 16 #[.int .u8 (a : Int), .int .u8 (b : Int)] W fun e w' => e = .returned (.int .u8 (m : Int)) ∧ w' = W := by
  have h := RefField.mul_ret a b W h1 g1
  rw [hm] at h
  exact h.mono fun _ _ ⟨he, hw⟩ => ⟨he, hw.symm⟩

set_option maxRecDepth 100000 in
set_option maxHeartbeats 1000000 in
theorem rdot_any (s t : ByteArray) (n : Nat) (w : World) (hn : n = min s.size t.size) (hm : s.size ≤ 140737488355328) (hm2 : t.size ≤ 140737488355328) :
    Calls Try.prog 23 #[.string s, .string t] w fun e w' => e = .returned (.int .u8 ((dot s.data.toList t.data.toList n : Nat) : Int)) ∧ ∃ q, w' = w.drewN q := by
  have hns : n ≤ s.size := by omega
  have hnt : n ≤ t.size := by omega
  have HN := Lib.hid hn
  clear hn
  go_enter Try.func23, Try.ntmps23
  go_wp2
  go_loopw [5, 6] (fun p i wr => ∃ k : Nat, k ≤ n ∧ i = .int .i64 (k : Int) ∧ p = .int .u8 ((dot s.data.toList t.data.toList k : Nat) : Int) ∧ ∃ q, Hid (wr = w.drewN q)) (fun _ i _ => n - (intOf i).toNat)
  case atStart => exact ⟨0, by omega, rfl, rfl, 0, Lib.hid rfl⟩
  case round =>
    obtain ⟨k, hk, rfl, rfl, q, HW⟩ := hrel
    by_cases hks : k < s.size
    · by_cases hkt : k < t.size
      · have hlt : k < n := by rw [HN.out]; omega
        have hd := dot_lt s.data.toList t.data.toList k
        have hs1 := s[k].toNat_lt
        have ht1 := t[k].toNat_lt
        have hml := Gf.mul_lt s[k].toNat t[k].toNat hs1
        have hst : dot s.data.toList t.data.toList (k + 1) = dot s.data.toList t.data.toList k ^^^ Gf.mul s[k].toNat t[k].toNat := by
          rw [← getD_at s k hks, ← getD_at t k hkt]; rfl
        have HS := Lib.hid hst
        clear hst
        generalize dot s.data.toList t.data.toList k = d at *
        generalize hmm : Gf.mul s[k].toNat t[k].toNat = m at *
        have c1 := fun W => rquiet_mul s[k].toNat t[k].toNat m (by omega) (by omega) hmm W
        have C1 := Lib.hid c1
        have hx := u8_xor_nat d m (by omega) (by omega)
        have HX := Lib.hid hx
        clear c1 hmm hx
        go_wp2_with fail
        go_quiet ((go_at_call 16; exact Calls.quiet_of_same (C1.out _)))
        go_wp2_with fail
        go_roundw
        case rel => exact ⟨k + 1, by omega, by go_num, by rw [HS.out, ← HX.out], _, Lib.hid (by rw [HW.out, World.drewN_drewN])⟩
        case measure => simp [intOf]; omega
      · have hkn : k = n := by rw [HN.out]; have := HN.out; omega
        have HK := Lib.hid hkn
        clear hkn
        go_wp2_with fail
        go_ret
        rw [← HK.out]
        exact ⟨rfl, q, HW.out⟩
    · have hkn : k = n := by have := HN.out; omega
      have HK := Lib.hid hkn
      clear hkn
      go_wp2_with fail
      go_ret
      rw [← HK.out]
      exact ⟨rfl, q, HW.out⟩

theorem since_drewN (w : World) (n : Nat) : Below w.heap.size w (w.drewN n) := ⟨rfl, rfl, rfl, Nat.le_refl _, fun _ _ => rfl⟩
theorem awake_mak : Mak 21 #[] (.bool true) := fun w => (fieldLaws.awake_any w).mono fun _ _ ⟨he, hw⟩ => ⟨he, hw ▸ Below.refl _ _⟩

set_option maxRecDepth 100000 in
set_option maxHeartbeats 1000000 in
theorem core (s t : ByteArray) (hs : s.size ≤ 300) (ht : t.size ≤ 300) (d : Int) (c1 : Mak 22 #[.string s, .string t] (.int .u8 d)) (c2 : Mak 23 #[.string s, .string t] (.int .u8 d)) (w : World) :
    Calls Try.prog 4 #[.string s, .string t] w fun e w' => e = .returned (.bool true) ∧ Since w w' := by
  have H0 := Lib.hid (Since.refl w)
  go_enter Try.func4, Try.ntmps4
  go_wp2_with fail
  refine c1.calls H0.out ?_
  intro w1 h1
  have H1 := Lib.hid h1
  clear h1
  go_wp2_with fail
  refine c2.calls H1.out ?_
  intro w2 h2
  have H2 := Lib.hid h2
  clear h2
  go_wp2_with fail
  refine awake_mak.calls H2.out ?_
  intro w3 h3
  have H3 := Lib.hid h3
  clear h3
  go_wp2_with fail
  go_ret
  exact ⟨rfl, H3.out⟩

set_option maxHeartbeats 1000000 in
theorem walk (a0 a1 : ByteArray) (w0 : a0.size ≤ maxLen) (w1 : a1.size ≤ maxLen) (w : World) :
    Calls Try.prog 4 #[.string a0, .string a1] w fun e w' => e = .returned (.bool true) ∧ Below w.heap.size w w' := by
  unfold maxLen at w0 w1
  by_cases h0 : a0.size ≤ 300
  · by_cases h1 : a1.size ≤ 300
    · refine core a0 a1 h0 h1 ((dot a0.data.toList a1.data.toList (min a0.size a1.size) : Nat) : Int) (fun w => ?_) (fun w => ?_) w
      · rcases Nat.lt_or_ge a1.size a0.size with h | h
        · rw [show min a0.size a1.size = a1.size from by omega]
          exact (dot_gt a0 a1 w h (by omega) (by omega)).mono fun _ _ ⟨he, q, hq⟩ => ⟨he, hq ▸ since_drewN w q⟩
        · rw [show min a0.size a1.size = a0.size from by omega]
          exact (dot_le a0 a1 w h (by omega) (by omega)).mono fun _ _ ⟨he, q, hq⟩ => ⟨he, hq ▸ since_drewN w q⟩
      · exact (rdot_any a0 a1 _ w rfl (by omega) (by omega)).mono fun _ _ ⟨he, q, hq⟩ => ⟨he, hq ▸ since_drewN w q⟩
    · go_enter Try.func4, Try.ntmps4
      go_wp2_with fail
      refine awake_mak.calls (Since.refl w) ?_
      intro w3 h3
      have H3 := Lib.hid h3
      clear h3
      go_wp2_with fail
      go_ret
      exact ⟨rfl, H3.out⟩
  · go_enter Try.func4, Try.ntmps4
    go_wp2_with fail
    refine awake_mak.calls (Since.refl w) ?_
    intro w3 h3
    have H3 := Lib.hid h3
    clear h3
    go_wp2_with fail
    go_ret
    exact ⟨rfl, H3.out⟩

theorem own : ownKnob Try.prog.godebug = none := by kernel_rfl

set_option maxRecDepth 100000 in
theorem lifted (os : Os) (started : os.Started) (H : Type) (enc : TypeId × Value → H) :
    ReturnsInHanded {} Try.checked os 4 .any (Rows.fieldDotsSpec.pre6 enc Try.prog Try.f4 Rows.fieldDotsRow.domain false) (Rows.fieldDotsSpec.post enc Try.prog Try.f4 false true false false) := by
  refine returnsInHanded_of_change (C := Try.checked) own started (by kernel_rfl) Try.func4
    (ChangeSpec.witness6 (enc := enc) (C := Try.checked) false ⟨#[], #[.string ⟨#[]⟩, .string ⟨#[]⟩], []⟩ 8 (by kernel_rfl) (by kernel_rfl) (by kernel_rfl) (by kernel_rfl)) ?_
  intro W base args ds gs before hval0 hW hcnd _
  have hval : ∀ (j : Nat) t v, Try.f4.params[j]? = some t → args[j]? = some v → Value.okWide Try.prog W .any base t v := hval0
  have hW' := hW
  obtain ⟨p, q, hA0, hV, rfl, hfz, hnd⟩ := hW
  have hA : DataW.TrodAll enc Try.prog W 0 (fun _ => true) true Try.f4.params.toList args.toList ds p := hA0
  rw [Try.params4] at hA hval
  obtain ⟨v0, vs0, d0, ds0, p0, q0, hargs, rfl, rfl, h0, r0⟩ := trodAll_cons hA
  obtain ⟨v1, vs1, d1, ds1, p1, q1, rfl, rfl, rfl, h1, r1⟩ := trodAll_cons r0
  obtain ⟨rfl, rfl, rfl⟩ := trodAll_nil r1
  obtain rfl : args = #[v0, v1] := by cases args; simp_all
  obtain ⟨rfl, rfl⟩ := trodVars_none hV
  obtain ⟨a0, rfl, rfl, rfl, w0⟩ := Go.ChangeMaps.open_string Try.underlying9 (hval 0 9 v0 rfl rfl) h0
  obtain ⟨a1, rfl, rfl, rfl, w1⟩ := Go.ChangeMaps.open_string Try.underlying9 (hval 1 9 v1 rfl rfl) h1
  clear hA0 hval0
  simp only [List.append_nil] at hW'
  refine (walk a0 a1 w0 w1 W).mono fun e W' ⟨he, hg⟩ => ?_
  subst he
  exact ⟨_, rfl, _, _, _, _, _, [], hW', (trodAll_cons_mk (shut_bool Try.underlying4 _) trodAll_mk0), (trodAll_cons_mk (Go.ChangeMaps.shut_string Try.underlying9 w0) (trodAll_cons_mk (Go.ChangeMaps.shut_string Try.underlying9 w1) trodAll_mk0)), rfl, hg.frame _, fun h => by cases h⟩

theorem over : Rows.fieldDotsRow.holds Try.pinned (OpenSpec.ofChange Rows.fieldDotsSpec) :=
  OpenClaim.holds_of_wide 4 Try.f4 rfl rfl rfl rfl rfl rfl rfl ⟨rfl, rfl, rfl, rfl, rfl⟩ rfl rfl rfl rfl rfl (by kernel_rfl) Try.func4 (by kernel_rfl)
    (of_decide_eq_true (by kernel_rfl)) (by unfold Func.isWrapper; first | (rw [if_pos (by decide +kernel)]; kernel_rfl) | (rw [if_neg (by decide +kernel)]; exact ⟨rfl, rfl⟩))
    (fun os started H enc _ => lifted os started H enc)

theorem proved : Rows.FieldDotsSaid :=
  over

end Go.Proofs.Ytcdjpdncgaeinaa.fieldDots
