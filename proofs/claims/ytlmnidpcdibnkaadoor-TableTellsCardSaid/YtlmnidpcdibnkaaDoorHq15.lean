/- Joined texts. -/
-- PACK: YtlmnidpcdibnkaaDoorTable5 YtlmnidpcdibnkaaDoorTableAwake
import Derived.Test.YtlmnidpcdibnkaaDoorHq14
import Derived.Test.YtlmnidpcdibnkaaDoorHq6
import Derived.Test.YtlmnidpcdibnkaaDoorHq8
import Derived.Test.YtlmnidpcdibnkaaDoorHq3

/- The reference's Usages; what the laws of table call awake. -/
namespace Go.Proofs.YtlmnidpcdibnkaaDoor
open Go.RowKit
namespace Table
theorem line_row (k : Nat) (r : List UInt8 × List UInt8 × List UInt8) (hk : k < 10) (h : rows[k]? = some r) : lineL r.1 = r := by
  have hall : ∀ k : Fin 10, ∀ r, rows[k.1]? = some r → lineL r.1 = r := by
    intro k r hr
    match k with
    | 0 | 1 | 2 | 3 | 4 | 5 | 6 | 7 | 8 | 9 => cases hr; decide +kernel
  exact hall ⟨k, hk⟩ r h
def allS : List ByteArray := [⟨#[66, 48]⟩, ⟨#[68, 48]⟩, ⟨#[68, 49]⟩, ⟨#[75, 48]⟩, ⟨#[75, 49]⟩, ⟨#[77, 51]⟩, ⟨#[77, 54]⟩, ⟨#[77, 55]⟩, ⟨#[80, 48]⟩, ⟨#[83, 48]⟩]
theorem all_at (k : Nat) (hk : k < 10) : ∃ r, rows[k]? = some r ∧ allS[k]? = some (bs r.1) := by
  have hall : ∀ k : Fin 10, ∃ r, rows[k.1]? = some r ∧ allS[k.1]? = some (bs r.1) := by
    intro k
    match k with
    | 0 | 1 | 2 | 3 | 4 | 5 | 6 | 7 | 8 | 9 => exact ⟨_, rfl, rfl⟩
  exact hall ⟨k, hk⟩
set_option maxRecDepth 100000 in
set_option maxHeartbeats 4000000 in
theorem rusages_mks (l : ByteArray) (L : List ByteArray) (hL : L = usagesL l.data.toList) : MakS 23 #[.string l] L := by
  intro w
  have HL := Lib.hid hL
  have hlit := Lib.hid (SlR.lit w 1 10 (allS.map Value.string) rfl (by decide) _ rfl 9)
  clear hL
  go_enter Tryd.func23, Tryd.ntmps23
  go_wp2_with fail
  go_loopw [4, 5] (fun s i wr => ∃ k : Nat, k ≤ 10 ∧ i = .int .i64 (k : Int) ∧ ∃ ss, ss.length ≤ 10 ∧ Hid (ss = usagesF l.data.toList k) ∧ Hid (Strs wr (w.heap.size + 1) s ss) ∧ Hid (Since (w.alloc (.cells #[.string ⟨#[66, 48]⟩, .string ⟨#[68, 48]⟩, .string ⟨#[68, 49]⟩, .string ⟨#[75, 48]⟩, .string ⟨#[75, 49]⟩, .string ⟨#[77, 51]⟩, .string ⟨#[77, 54]⟩, .string ⟨#[77, 55]⟩, .string ⟨#[80, 48]⟩, .string ⟨#[83, 48]⟩] 9)) wr)) (fun _ i _ => 10 - (intOf i).toNat)
  case atStart => exact ⟨0, by omega, rfl, [], by decide, Lib.hid rfl, Lib.hid ⟨rfl, Or.inl ⟨rfl, rfl⟩⟩, Lib.hid (Since.refl _)⟩
  case round =>
    obtain ⟨k, hk, rfl, ss, hss, HSS, HO, HS⟩ := hrel
    by_cases hlt2 : k < 10
    · obtain ⟨r, hr, ha⟩ := all_at k hlt2
      obtain ⟨_, A, c, hv, _, _, hc⟩ := hlit.out
      obtain ⟨rfl, _, rfl⟩ := Value.slice.inj hv
      rcases hc with hc | ⟨b, o, e, hlt, hc⟩
      · cases hc
      obtain ⟨rfl, rfl, -⟩ := Addr.mk.inj (Option.some.inj e)
      have h9 := hc k (.string (bs r.1)) (by rw [List.getElem?_map, ha]; rfl)
      rw [Nat.zero_add] at h9
      have m0 : wr.cell? ⟨w.heap.size, k, none⟩ = some (.string (bs r.1)) := (HS.out.cell (p := ⟨w.heap.size, k, none⟩) (by simp)).trans h9
      have hst := usagesF_step l.data.toList k r hlt2 hr
      obtain ⟨q, hq⟩ : ∃ q, q = one r.2.1 l.data.toList := ⟨_, rfl⟩
      have c1 := rusage_mak (bs r.1) l q (by rw [list_bs, line_row k r hlt2 hr]; exact hq)
      rw [← hq, ← HSS.out] at hst
      obtain ⟨x, hx⟩ : ∃ x, x = bs r.1 := ⟨_, rfl⟩
      rw [← hx] at c1 m0 hst
      have hlen := usagesF_len l.data.toList (k + 1)
      have hg : w.heap.size < wr.heap.size := Nat.lt_of_lt_of_le (by simp) (Below.size HS.out)
      clear hr hq hx h9 hc ha hv e hlt
      cases q
      · have HSS2 := Lib.hid hst.symm
        rw [if_neg (by decide)] at HSS2
        clear hst hlen
        go_wp2_with fail
        refine c1.calls0 ?_
        intro w2 h2
        have hO2 := Lib.hid (Strs.since HO.out h2)
        have hS2 := Lib.hid (HS.out.step h2)
        clear h2
        go_wp2_with fail
        go_roundw
        case rel => exact ⟨k + 1, by omega, by go_num, ss, hss, HSS2, hO2, hS2⟩
        case measure => simp [intOf]; omega
      · rw [if_pos rfl] at hst
        rw [hst, List.length_append] at hlen
        have HSS2 := Lib.hid hst.symm
        have hl1 : ss.length + 1 ≤ 10 := by
          have : ([x] : List ByteArray).length = 1 := rfl
          omega
        clear hst hlen
        go_wp2_with fail
        refine c1.calls0 ?_
        intro w2 h2
        replace m0 := (Below.cell h2 (by exact hg)).trans m0
        have hO2 := Lib.hid (Strs.since HO.out h2)
        have hS2 := Lib.hid (HS.out.step h2)
        clear h2
        have e1 : w.heap.size + 1 = (w.alloc (.cells #[.string ⟨#[66, 48]⟩, .string ⟨#[68, 48]⟩, .string ⟨#[68, 49]⟩, .string ⟨#[75, 48]⟩, .string ⟨#[75, 49]⟩, .string ⟨#[77, 51]⟩, .string ⟨#[77, 54]⟩, .string ⟨#[77, 55]⟩, .string ⟨#[80, 48]⟩, .string ⟨#[83, 48]⟩] 9)).heap.size := by simp
        rw [e1] at hO2
        go_wp2_with (at_builtin; refine app_one elemS rfl _ _ (by rfl) _ w2 _ ss.length _ (by rfl) hO2.out hS2.out _ (by rfl) rfl (by omega) (by decide) ?_)
        intro v2 w3 ho3 hs3
        rw [← e1] at ho3
        have HO3 : Hid (Strs w3 (w.heap.size + 1) v2 (ss ++ [x])) := Lib.hid (by
          unfold Strs
          rw [List.length_append, List.map_append]
          exact ho3)
        have Hs3 := Lib.hid hs3
        clear hs3
        clear ho3 e1
        go_wp2_with fail
        go_roundw
        case rel => exact ⟨k + 1, by omega, by go_num, ss ++ [x], by rw [List.length_append]; exact hl1, HSS2, HO3, Hs3⟩
        case measure => simp [intOf]; omega
    · obtain rfl : k = 10 := by omega
      obtain rfl : L = ss := by rw [HL.out, HSS.out]; rfl
      go_wp2_with fail
      go_ret
      exact ⟨_, rfl, Strs.lower HO.out (by omega), ((Since.refl w).alloc _).step HS.out⟩
end Table
end Go.Proofs.YtlmnidpcdibnkaaDoor

/- Layer 30: what the laws call awake. -/
namespace Go.Proofs.YtlmnidpcdibnkaaDoor
open Go.RowKit
namespace Table
set_option maxRecDepth 100000 in
set_option maxHeartbeats 4000000 in
theorem awake_k : KMk Tabs 8 #[] (.bool true) := by
  intro w hT
  have HS := Lib.hid (Since.refl w)
  have HT := Lib.hid hT
  have c1 := modes_k ⟨#[83, 48]⟩ ⟨#[78, 83, 84, 86]⟩ (by decide +kernel)
  have c2 := usage_k ⟨#[77, 55]⟩ ⟨#[65]⟩ false (by decide +kernel)
  have c3 := usage_k ⟨#[77, 55]⟩ ⟨#[72]⟩ true (by decide +kernel)
  have c4 := version_ret ⟨#[99, 49]⟩ true (by decide +kernel)
  have c5 := export_ret ⟨#[83]⟩ true (by decide +kernel)
  have c6 := check_k ⟨#[75, 48]⟩ ⟨#[66]⟩ ⟨#[48, 48]⟩ ⟨#[69]⟩ ⟨#[65]⟩ 0 (by decide +kernel)
  have c7 := check_k ⟨#[]⟩ ⟨#[]⟩ ⟨#[]⟩ ⟨#[]⟩ ⟨#[65]⟩ 12 (by decide +kernel)
  clear hT
  go_enter Tryd.func8, Tryd.ntmps8
  go_wp2_with fail
  repeat (first
    | (with_reducible refine c1.calls0 HT.out ?_; intro wz hz; replace HT := Lib.hid (Kp.keep HT.out hz); replace HS := Lib.hid (HS.out.step hz); clear hz; try go_wp2_with fail)
    | (with_reducible refine c2.calls0 HT.out ?_; intro wz hz; replace HT := Lib.hid (Kp.keep HT.out hz); replace HS := Lib.hid (HS.out.step hz); clear hz; try go_wp2_with fail)
    | (with_reducible refine c3.calls0 HT.out ?_; intro wz hz; replace HT := Lib.hid (Kp.keep HT.out hz); replace HS := Lib.hid (HS.out.step hz); clear hz; try go_wp2_with fail)
    | (with_reducible refine c4.calls ?_; try go_wp2_with fail)
    | (with_reducible refine c5.calls ?_; try go_wp2_with fail)
    | (with_reducible refine c6.calls0 HT.out ?_; intro wz hz; replace HT := Lib.hid (Kp.keep HT.out hz); replace HS := Lib.hid (HS.out.step hz); clear hz; try go_wp2_with fail)
    | (with_reducible refine c7.calls0 HT.out ?_; intro wz hz; replace HT := Lib.hid (Kp.keep HT.out hz); replace HS := Lib.hid (HS.out.step hz); clear hz; try go_wp2_with fail))
  go_ret
  exact ⟨rfl, HS.out⟩
end Table
end Go.Proofs.YtlmnidpcdibnkaaDoor
