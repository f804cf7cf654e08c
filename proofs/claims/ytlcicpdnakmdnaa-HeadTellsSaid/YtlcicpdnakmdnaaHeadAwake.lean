/- What the law calls awake, for layer 15. -/
import Derived.Test.YtlcicpdnakmdnaaHeadD
import Derived.Laws.StructEq
namespace Go.Proofs.Ytlcicpdnakmdnaa
open Go.RowKit
namespace Head

set_option maxRecDepth 100000 in
set_option maxHeartbeats 4000000 in
theorem awake_mak : Mak 9 #[] (.bool true) := by
  intro w
  have H0 := Lib.hid (Since.refl w)
  have c1 : Mak 10 #[.agg #[.int .i64 0, .int .i64 16, .bool true, .int .i64 200]] (.tuple #[.string ⟨#[48, 129, 200]⟩, .int .i64 0]) := enc_ok 0 16 200 true (by decide) (by decide) (by decide) _ rfl
  have c2 : Mak 12 #[.string ⟨#[159, 31, 0]⟩] (.tuple #[.agg #[.int .i64 2, .int .i64 31, .bool false, .int .i64 0], .int .i64 3, .int .i64 0]) := dec_mak ⟨#[159, 31, 0]⟩ (by decide) _ rfl
  have c3 : Mak 12 #[.string ⟨#[31, 30, 0]⟩] (.tuple #[.agg #[.int .i64 0, .int .i64 0, .bool false, .int .i64 0], .int .i64 0, .int .i64 5]) := dec_mak ⟨#[31, 30, 0]⟩ (by decide) _ rfl
  go_enter Try.func9, Try.ntmps9
  go_wp2_with fail
  refine (c1).calls H0.out ?_
  intro w1 h1
  have H1 := Lib.hid h1
  clear h1
  go_wp2_with fail
  refine (c2).calls H1.out ?_
  intro w2 h2
  have H2 := Lib.hid h2
  clear h2
  go_wp2_with fail
  refine c3.calls0 ?_
  intro w3 h3
  obtain ⟨⟨q0, q1, q2, q3⟩, _⟩ := (cells4_new w2 (.int .i64 2) (.int .i64 31) (.bool false) (.int .i64 0) 28).below _ h3 (by simp)
  have H3 : Hid (Since w w3) := Lib.hid (Since.step (H2.out.alloc _) h3)
  have hlt : w2.heap.size < w3.heap.size := by have h9 := Below.size h3; simp at h9; omega
  clear h3
  go_wp2_with fail
  go_ret
  exact ⟨rfl, H3.out.alloc _⟩
end Head
end Go.Proofs.Ytlcicpdnakmdnaa
