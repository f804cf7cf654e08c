/- What the law calls awake, for layer 7. -/
import Derived.Test.YtoblmddnefmpoaaRndM
namespace Go.Proofs.Ytoblmddnefmpoaa
open Go.RowKit
namespace Rnd

set_option maxRecDepth 100000 in
set_option maxHeartbeats 4000000 in
theorem awake_mak : Mak 26 #[] (.bool true) := by
  intro w
  have H0 := Lib.hid (Since.refl w)
  have c1 := mix_mak ⟨#[219, 19, 83, 69, 219, 19, 83, 69, 219, 19, 83, 69, 219, 19, 83, 69]⟩ rfl ⟨#[142, 77, 161, 188, 142, 77, 161, 188, 142, 77, 161, 188, 142, 77, 161, 188]⟩ (by decide +kernel)
  have c2 := unmix_mak ⟨#[142, 77, 161, 188, 142, 77, 161, 188, 142, 77, 161, 188, 142, 77, 161, 188]⟩ rfl ⟨#[219, 19, 83, 69, 219, 19, 83, 69, 219, 19, 83, 69, 219, 19, 83, 69]⟩ (by decide +kernel)
  have c3 := shift_mak ⟨#[48, 49, 50, 51, 52, 53, 54, 55, 56, 57, 97, 98, 99, 100, 101, 102]⟩ rfl ⟨#[48, 53, 97, 102, 52, 57, 101, 51, 56, 100, 50, 55, 99, 49, 54, 98]⟩ (by decide +kernel)
  have c4 := key_mak ⟨#[48, 49, 50, 51, 52, 53, 54, 55, 56, 57, 97, 98, 99, 100, 101, 102]⟩ ⟨#[48, 49, 50, 51, 52, 53, 54, 55, 56, 57, 97, 98, 99, 100, 101, 102]⟩ rfl rfl ⟨#[0, 0, 0, 0, 0, 0, 0, 0, 0, 0, 0, 0, 0, 0, 0, 0]⟩ (by decide +kernel)
  have hx : ((⟨#[142, 77, 161, 188, 142, 77, 161, 188, 142, 77, 161, 188, 142, 77, 161, 188]⟩ : ByteArray).extract 0 4).toList = [142, 77, 161, 188] := by rw [toList_d]; decide +kernel
  go_enter Try.func26, Try.ntmps26
  go_wp2_with fail
  refine c1.calls H0.out ?_
  intro w1 h1
  have H1 := Lib.hid h1
  clear h1
  go_wp2_with fail
  refine c2.calls H1.out ?_
  intro w2 h2
  have H2 := Lib.hid h2
  clear h2
  go_wp2_with fail
  refine c3.calls H2.out ?_
  intro w3 h3
  have H3 := Lib.hid h3
  clear h3
  go_wp2_with fail
  refine c4.calls H3.out ?_
  intro w4 h4
  have H4 := Lib.hid h4
  clear h4
  go_wp2_with fail
  go_ret
  exact ⟨rfl, H4.out⟩
end Rnd
end Go.Proofs.Ytoblmddnefmpoaa
