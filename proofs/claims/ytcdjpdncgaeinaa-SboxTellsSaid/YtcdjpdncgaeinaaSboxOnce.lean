/- The law SboxOnce: for all bytes a, b the substitution is a permutation without fixed points or opposites; no conditions. -/
import Derived.Test.YtcdjpdncgaeinaaRows
import Derived.WalkKit
import Derived.ProofKit
import Derived.OpenShut
import Derived.Lib.Hide
import Derived.Test.YtcdjpdncgaeinaaBase
import Derived.Test.YtcdjpdncgaeinaaField
import Derived.Test.YtcdjpdncgaeinaaSbox
import Derived.Test.YtcdjpdncgaeinaaSboxT
import Derived.Test.YtcdjpdncgaeinaaSboxE
namespace Go.Proofs.Ytcdjpdncgaeinaa
namespace Sbox
open Go.RowKit

set_option maxRecDepth 100000 in
set_option maxHeartbeats 1000000 in
theorem awake_mak : Mak 24 #[] (.bool true) := by
  intro w
  have H0 := Lib.hid (Since.refl w)
  have c1 : Mak 35 #[] (.string (strOfNums ((List.range 256).map fun j => ((sub j : Nat) : Int)))) := fun w => table_any w
  have hl : (strOfNums ((List.range 256).map fun j => ((sub j : Nat) : Int))).size = 256 := by rw [strOfNums_size, List.length_map, List.length_range]
  generalize strOfNums ((List.range 256).map fun j => ((sub j : Nat) : Int)) = T at c1 hl
  have hl2 : ((T.size : Int) == 256) = true := by rw [hl]; rfl
  clear hl
  have c2 : Mak 27 #[.int .u8 0] (.int .u8 99) := by
    have h := (sub_rdr 0 (by omega)).mak
    rwa [show sub 0 = 99 from by decide +kernel] at h
  have c3 : Mak 27 #[.int .u8 83] (.int .u8 237) := by
    have h := (sub_rdr 83 (by omega)).mak
    rwa [show sub 83 = 237 from by decide +kernel] at h
  have c4 : Mak 29 #[.int .u8 237] (.int .u8 83) := by
    have h := (back_rdr 237 (by omega)).mak
    rwa [show back 237 = 83 from by decide +kernel] at h
  have c5 : Mak 31 #[.string ⟨#[0, 83]⟩] (.string ⟨#[99, 237]⟩) := by
    have h := subs_mak ⟨#[0, 83]⟩ (by decide)
    rwa [show strOfNums ((⟨#[0, 83]⟩ : ByteArray).data.toList.map fun c => ((sub c.toNat : Nat) : Int)) = ⟨#[99, 237]⟩ from by decide +kernel] at h
  have c6 : Mak 25 #[.int .u8 129, .int .i64 1] (.int .u8 3) := by
    have h := (turn_rdr 129 1 (by omega) (by omega)).mak
    rwa [show turn 129 1 = 3 from by decide +kernel] at h
  go_enter Try.func24, Try.ntmps24
  go_wp2_with fail
  refine c1.calls H0.out ?_
  intro w1 h1
  have K1 := Lib.hid h1
  clear h1
  go_wp2_with fail
  refine c2.calls K1.out ?_
  intro w2 h2
  have K2 := Lib.hid h2
  clear h2
  go_wp2_with fail
  refine c3.calls K2.out ?_
  intro w3 h3
  have K3 := Lib.hid h3
  clear h3
  go_wp2_with fail
  refine c4.calls K3.out ?_
  intro w4 h4
  have K4 := Lib.hid h4
  clear h4
  go_wp2_with fail
  refine c5.calls K4.out ?_
  intro w5 h5
  have K5 := Lib.hid h5
  clear h5
  go_wp2_with fail
  refine c6.calls K5.out ?_
  intro w6 h6
  have K6 := Lib.hid h6
  clear h6
  go_wp2_with fail
  go_ret
  exact ⟨rfl, K6.out⟩
end Sbox

namespace sboxOnce
open Go.ChangeShapes Go.WideShapes Go.ChangeAt Go.RowKit
theorem once_all : (List.range 256).all (fun a => Sbox.back (Sbox.sub a) == a && Sbox.sub (Sbox.back a) == a && Sbox.sub a != a && Sbox.sub a ^^^ a != 255) = true := by decide +kernel
theorem once (a : Nat) (h : a < 256) : Sbox.back (Sbox.sub a) = a ∧ Sbox.sub (Sbox.back a) = a ∧ Sbox.sub a ≠ a ∧ Sbox.sub a ^^^ a ≠ 255 := by
  have := List.all_eq_true.1 once_all a (List.mem_range.2 h)
  simpa [and_assoc] using this

set_option maxRecDepth 100000 in
set_option maxHeartbeats 1000000 in
theorem core (a b x y v z : Int) (hab : (x == y) = (a == b)) (hxa : (x != a) = true) (hz : (z != 255) = true)
    (m1 : Mak 27 #[.int .u8 a] (.int .u8 x)) (m2 : Mak 27 #[.int .u8 b] (.int .u8 y)) (m3 : Mak 29 #[.int .u8 x] (.int .u8 a))
    (m4 : Mak 29 #[.int .u8 a] (.int .u8 v)) (m5 : Mak 27 #[.int .u8 v] (.int .u8 a)) (m6 : Mak 11 #[.int .u8 x, .int .u8 a] (.int .u8 z)) (w : World) :
    Calls Try.prog 8 #[.int .u8 a, .int .u8 b] w fun e w' => e = .returned (.bool true) ∧ Since w w' := by
  have H0 := Lib.hid (Since.refl w)
  go_enter Try.func8, Try.ntmps8
  go_wp2_with fail
  refine m1.calls H0.out ?_
  intro w1 h1
  have K1 := Lib.hid h1
  clear h1
  go_wp2_with fail
  refine m2.calls K1.out ?_
  intro w2 h2
  have K2 := Lib.hid h2
  clear h2
  go_wp2_with fail
  refine m3.calls K2.out ?_
  intro w3 h3
  have K3 := Lib.hid h3
  clear h3
  go_wp2_with fail
  refine m4.calls K3.out ?_
  intro w4 h4
  have K4 := Lib.hid h4
  clear h4
  go_wp2_with fail
  refine m5.calls K4.out ?_
  intro w5 h5
  have K5 := Lib.hid h5
  clear h5
  go_wp2_with fail
  refine m6.calls K5.out ?_
  intro w6 h6
  have K6 := Lib.hid h6
  clear h6
  go_wp2_with fail
  refine Sbox.awake_mak.calls K6.out ?_
  intro w7 h7
  have K7 := Lib.hid h7
  clear h7
  go_wp2_with fail
  go_ret
  exact ⟨rfl, K7.out⟩

theorem walk (a0 a1 : Int) (w0 : (Lit.int .u8 a0).wf = true) (w1 : (Lit.int .u8 a1).wf = true) (w : World) :
    Calls Try.prog 8 #[.int .u8 a0, .int .u8 a1] w fun e w' => e = .returned (.bool true) ∧ Below w.heap.size w w' := by
  obtain ⟨b0, t0⟩ := u8_of_wf w0
  obtain ⟨b1, t1⟩ := u8_of_wf w1
  obtain ⟨x, rfl⟩ := Int.eq_ofNat_of_zero_le b0
  obtain ⟨y, rfl⟩ := Int.eq_ofNat_of_zero_le b1
  obtain ⟨o1, o2, o3, o4⟩ := once x (by omega)
  obtain ⟨p1, _, _, _⟩ := once y (by omega)
  have hx := Sbox.sub_lt x
  have hb := Sbox.back_lt x
  have m3 := (Sbox.back_rdr (Sbox.sub x) (by omega)).mak
  rw [o1] at m3
  have m5 := (Sbox.sub_rdr (Sbox.back x) (by omega)).mak
  rw [o2] at m5
  refine core x y (Sbox.sub x : Nat) (Sbox.sub y : Nat) (Sbox.back x : Nat) (Sbox.sub x ^^^ x : Nat) ?_ ?_ ?_ (Sbox.sub_rdr x (by omega)).mak (Sbox.sub_rdr y (by omega)).mak m3 (Sbox.back_rdr x (by omega)).mak m5 (Sbox.add_rdr _ _ (by omega) (by omega)).mak w
  · rw [Bool.eq_iff_iff]
    simp only [beq_iff_eq]
    constructor
    · intro h
      have h' : Sbox.sub x = Sbox.sub y := by omega
      rw [h', p1] at o1
      omega
    · intro h
      have h' : x = y := by omega
      rw [h']
  · rw [bne_iff_ne]; omega
  · rw [bne_iff_ne]; omega

theorem own : ownKnob Try.prog.godebug = none := by kernel_rfl

set_option maxRecDepth 100000 in
theorem lifted (os : Os) (started : os.Started) (H : Type) (enc : TypeId × Value → H) :
    ReturnsInHanded {} Try.checked os 8 .any (Rows.sboxOnceSpec.pre6 enc Try.prog Try.f8 Rows.sboxOnceRow.domain false) (Rows.sboxOnceSpec.post enc Try.prog Try.f8 false true false false) := by
  refine returnsInHanded_of_change (C := Try.checked) own started (by kernel_rfl) Try.func8
    (ChangeSpec.witness6 (enc := enc) (C := Try.checked) false ⟨#[], #[.int .u8 0, .int .u8 0], []⟩ 8 (by kernel_rfl) (by kernel_rfl) (by kernel_rfl) (by kernel_rfl)) ?_
  intro W base args ds gs before hval0 hW hcnd _
  have hval : ∀ (j : Nat) t v, Try.f8.params[j]? = some t → args[j]? = some v → Value.okWide Try.prog W .any base t v := hval0
  have hW' := hW
  obtain ⟨p, q, hA0, hV, rfl, hfz, hnd⟩ := hW
  have hA : DataW.TrodAll enc Try.prog W 0 (fun _ => true) true Try.f8.params.toList args.toList ds p := hA0
  rw [Try.params8] at hA hval
  obtain ⟨v0, vs0, d0, ds0, p0, q0, hargs, rfl, rfl, h0, r0⟩ := trodAll_cons hA
  obtain ⟨v1, vs1, d1, ds1, p1, q1, rfl, rfl, rfl, h1, r1⟩ := trodAll_cons r0
  obtain ⟨rfl, rfl, rfl⟩ := trodAll_nil r1
  obtain rfl : args = #[v0, v1] := by cases args; simp_all
  obtain ⟨rfl, rfl⟩ := trodVars_none hV
  obtain ⟨a0, rfl, rfl, rfl, w0⟩ := open_int Try.underlying5 (hval 0 5 v0 rfl rfl) h0
  obtain ⟨a1, rfl, rfl, rfl, w1⟩ := open_int Try.underlying5 (hval 1 5 v1 rfl rfl) h1
  clear hA0 hval0
  simp only [List.append_nil] at hW'
  refine (walk a0 a1 w0 w1 W).mono fun e W' ⟨he, hg⟩ => ?_
  subst he
  exact ⟨_, rfl, _, _, _, _, _, [], hW', (trodAll_cons_mk (shut_bool Try.underlying4 _) trodAll_mk0), (trodAll_cons_mk (shut_int Try.underlying5 w0) (trodAll_cons_mk (shut_int Try.underlying5 w1) trodAll_mk0)), rfl, hg.frame _, fun h => by cases h⟩

theorem over : Rows.sboxOnceRow.holds Try.pinned (OpenSpec.ofChange Rows.sboxOnceSpec) :=
  OpenClaim.holds_of_wide 8 Try.f8 rfl rfl rfl rfl rfl rfl rfl ⟨rfl, rfl, rfl, rfl, rfl⟩ rfl rfl rfl rfl rfl (by kernel_rfl) Try.func8 (by kernel_rfl)
    (of_decide_eq_true (by kernel_rfl)) (by unfold Func.isWrapper; first | (rw [if_pos (by decide +kernel)]; kernel_rfl) | (rw [if_neg (by decide +kernel)]; exact ⟨rfl, rfl⟩))
    (fun os started H enc _ => lifted os started H enc)

theorem proved : Rows.SboxOnceSaid :=
  over

end sboxOnce
end Go.Proofs.Ytcdjpdncgaeinaa
