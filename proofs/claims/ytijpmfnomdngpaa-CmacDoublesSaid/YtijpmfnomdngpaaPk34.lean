/- Joined texts. -/
-- PACK: YtijpmfnomdngpaaCmacAwake
import Derived.Test.YtijpmfnomdngpaaPk33
import Derived.Test.YtijpmfnomdngpaaPk32

/- Package cmac: a tag checked; what the law calls awake, for layer 11. -/
namespace Go.Proofs.Ytijpmfnomdngpaa
open Go.RowKit
namespace Cmac
open Rnd Aes
theorem check_no (key s t : ByteArray) (hm : key.size ≤ 1000000) (hk : ¬ keyOk key) : Ret 41 #[.string key, .string s, .string t] (.tuple #[.bool false, .int .i64 2]) := by
  intro w
  have c1 := tag_no key s hm hk
  clear hk
  go_enter Try.func41, Try.ntmps41
  go_wp2_with fail
  refine (c1).calls ?_
  go_wp2_with fail
  go_ret2
  exact ⟨rfl, rfl⟩
theorem check_yes (key s t : ByteArray) (hk : keyOk key) (hm : s.size ≤ 1000000) (ht : t.size ≤ 1000000) (q : Bool) (hq : q = decide (tagK key s = t)) : Mak 41 #[.string key, .string s, .string t] (.tuple #[.bool q, .int .i64 0]) := by
  intro w
  have H0 := Lib.hid (Since.refl w)
  obtain ⟨T, hT⟩ : ∃ T, T = tagK key s := ⟨_, rfl⟩
  have c1 := tag_yes key s hk hm T hT
  obtain ⟨n, c2⟩ := Scan.scan_m T t (by rw [hT, tagK_size]; omega) (by omega) q (by rw [hT]; exact hq)
  clear hk hT hq
  go_enter Try.func41, Try.ntmps41
  go_wp2_with fail
  refine c1.calls H0.out ?_
  intro w1 h1
  have H1 := Lib.hid h1
  clear h1
  go_wp2_with fail
  refine c2.calls H1.out ?_
  intro w2 h2
  have H2 := Lib.hid h2
  clear h2
  go_wp2_with fail
  go_ret2
  exact ⟨rfl, H2.out⟩
def rfcK : ByteArray := ⟨#[43, 126, 21, 22, 40, 174, 210, 166, 171, 247, 21, 136, 9, 207, 79, 60]⟩
def rfcT : ByteArray := ⟨#[187, 29, 105, 41, 233, 89, 55, 40, 127, 163, 125, 18, 155, 117, 103, 70]⟩
theorem rfc : tagK rfcK ⟨#[]⟩ = rfcT := by
  apply ba_ext
  decide +kernel
set_option maxHeartbeats 1000000 in
theorem awake_mak : Mak 32 #[] (.bool true) := by
  intro w
  have H0 := Lib.hid (Since.refl w)
  have c1 := tag_yes rfcK ⟨#[]⟩ (Or.inl rfl) (by decide) rfcT rfc.symm
  have c2 : Ret 39 #[.int .i64 17] (.int .i64 2) := blocks_nat 17 (by decide) 2 (by decide)
  unfold rfcK rfcT at c1
  go_enter Try.func32, Try.ntmps32
  go_wp2_with fail
  refine c1.calls H0.out ?_
  intro w1 h1
  have H1 := Lib.hid h1
  clear h1
  go_wp2_with fail
  refine (c2).calls ?_
  go_wp2_with fail
  go_ret
  exact ⟨rfl, H1.out⟩
end Cmac
end Go.Proofs.Ytijpmfnomdngpaa
