/- Joined texts. -/
-- PACK: YtgfdomdbjiflmaaDoorOpt YtgfdomdbjiflmaaDoorRefOpt
import Derived.Test.YtgfdomdbjiflmaaDoorDk19
import Derived.Test.YtgfdomdbjiflmaaDoorDk28
import Derived.Test.YtgfdomdbjiflmaaDoorDk27
import Derived.Test.YtgfdomdbjiflmaaDoorDk22
import Derived.Deep.RegionHeld3
import Derived.IntWalk
import Derived.Test.YtgfdomdbjiflmaaDoorDk14
import Derived.Deep.QuietTactic
import Derived.BigQuiet

/- Package option: which options may be; Encode. -/
namespace Go.Proofs.YtgfdomdbjiflmaaDoor
open Go.RowKit
namespace Opt
theorem hb2 {w : World} {K : World → Prop} {g : Nat} {a b : Value} {W : World} (h : Hid (HB w K g #[a, b] W)) : Hid (HB w K g #[a, b] W) ∧ W.cell? ⟨g, 0, none⟩ = some a ∧ W.cell? ⟨g, 1, none⟩ = some b :=
  ⟨h, h.out.cell 0 _ rfl, h.out.cell 1 _ rfl⟩
theorem hbal {w : World} {K : World → Prop} [Kp K] {g : Nat} {C : Array Value} {W : World} {o : Obj} (h : Hid (HB w K g C W)) : Hid (HB w K g C (W.alloc o)) := hbstep ((Below.refl _ _).alloc (Nat.le_refl _) _) h
set_option maxRecDepth 100000 in
theorem idc_ret (c : Nat) (hc : c < 256) (q : Bool) (hq : q = idN c) : Ret 161 #[.int .u8 (c : Int)] (.bool q) := by
  intro w
  have hq2 : Hid (q = idN c) := Lib.hid hq
  clear hq
  have h1 : (65 : Int) ≤ (c : Int) ∨ (c : Int) < 65 := by omega
  have h2 : (c : Int) ≤ 90 ∨ 90 < (c : Int) := by omega
  have h3 : (48 : Int) ≤ (c : Int) ∨ (c : Int) < 48 := by omega
  have h4 : (c : Int) ≤ 57 ∨ 57 < (c : Int) := by omega
  rcases h1 with h1 | h1 <;> rcases h2 with h2 | h2 <;> rcases h3 with h3 | h3 <;> rcases h4 with h4 | h4 <;> first | (exfalso; omega) | skip
  all_goals
    go_enter Tryd.func161, Tryd.ntmps161
    go_wp2_with fail
    go_ret
    refine ⟨?_, rfl⟩
    have hq3 := hq2.out
    unfold idN at hq3
    rw [hq3]
    refine congrArg Ending.returned (congrArg Value.bool ?_)
    rw [Bool.eq_iff_iff]
    simp
    omega
set_option maxRecDepth 100000 in
theorem datac_ret (c : Nat) (hc : c < 256) (q : Bool) (hq : q = dataN c) : Ret 162 #[.int .u8 (c : Int)] (.bool q) := by
  intro w
  have hq2 : Hid (q = dataN c) := Lib.hid hq
  clear hq
  have h1 : (32 : Int) ≤ (c : Int) ∨ (c : Int) < 32 := by omega
  have h2 : (c : Int) ≤ 126 ∨ 126 < (c : Int) := by omega
  rcases h1 with h1 | h1 <;> rcases h2 with h2 | h2 <;> first | (exfalso; omega) | skip
  all_goals
    go_enter Tryd.func162, Tryd.ntmps162
    go_wp2_with fail
    go_ret
    refine ⟨?_, rfl⟩
    have hq3 := hq2.out
    unfold dataN at hq3
    rw [hq3]
    refine congrArg Ending.returned (congrArg Value.bool ?_)
    rw [Bool.eq_iff_iff]
    simp
    omega
set_option maxRecDepth 100000 in
theorem all_id (p : Nat → Bool) (hp : ∀ (c : Nat) (q : Bool), c < 256 → q = p c → Ret 161 #[.int .u8 (c : Int)] (.bool q)) (s : ByteArray) (hm : s.size ≤ 140737488355328) (v : Bool) (hv : v = allB p s.data.toList) : Ret 163 #[.string s, .func (.func 161) #[] #[]] (.bool v) := by
  intro w
  have HV := Lib.hid hv
  have HP := Lib.hid hp
  clear hv hp
  go_enter Tryd.func163, Tryd.ntmps163
  go_wp2_with fail
  go_loop [8, 5] (fun i _ => ∃ k : Nat, k ≤ s.size ∧ i = .int .i64 (k : Int) ∧ Hid (allB p (s.data.toList.take k) = true)) (fun i _ => s.size - (intOf i).toNat)
  case atStart => exact ⟨0, by omega, rfl, Lib.hid rfl⟩
  case round =>
    obtain ⟨k, hk, rfl, HA⟩ := hrel
    by_cases hlt : k < s.size
    · obtain ⟨q, hq⟩ : ∃ q, q = p s[k].toNat := ⟨_, rfl⟩
      have c1 := HP.out s[k].toNat q s[k].toNat_lt hq
      have hts : s.data.toList.take (k + 1) = s.data.toList.take k ++ [s[k]] := by
        rw [List.take_succ_eq_append_getElem (show k < s.data.toList.length from hlt)]; rfl
      have HA2 : Hid (allB p (s.data.toList.take (k + 1)) = q) := Lib.hid (by rw [hts, allB_snoc, HA.out, ← hq]; rfl)
      clear hts hq
      cases q
      · go_wp2_with fail
        refine c1.calls ?_
        go_wp2_with fail
        go_ret
        have hf : v = false := by
          rw [HV.out]
          cases h : allB p s.data.toList with
          | false => rfl
          | true =>
            have h9 := HA2.out
            unfold allB at h h9
            rw [List.all_eq_false] at h9
            obtain ⟨x, hx, hx2⟩ := h9
            exact absurd (List.all_eq_true.1 h x (List.mem_of_mem_take hx)) hx2
        rw [hf]; exact ⟨rfl, rfl⟩
      · go_wp2_with fail
        refine c1.calls ?_
        go_wp2_with fail
        go_round
        case rel => exact ⟨k + 1, by omega, by go_num, HA2⟩
        case measure => simp [intOf]; omega
    · obtain rfl : k = s.size := by omega
      go_wp2_with fail
      go_ret
      have ht : v = true := by
        rw [HV.out]
        have h9 := HA.out
        rw [List.take_of_length_le (show s.data.toList.length ≤ s.size from Nat.le_refl _)] at h9
        exact h9
      rw [ht]; exact ⟨rfl, rfl⟩
set_option maxRecDepth 100000 in
theorem all_data (p : Nat → Bool) (hp : ∀ (c : Nat) (q : Bool), c < 256 → q = p c → Ret 162 #[.int .u8 (c : Int)] (.bool q)) (s : ByteArray) (hm : s.size ≤ 140737488355328) (v : Bool) (hv : v = allB p s.data.toList) : Ret 163 #[.string s, .func (.func 162) #[] #[]] (.bool v) := by
  intro w
  have HV := Lib.hid hv
  have HP := Lib.hid hp
  clear hv hp
  go_enter Tryd.func163, Tryd.ntmps163
  go_wp2_with fail
  go_loop [8, 5] (fun i _ => ∃ k : Nat, k ≤ s.size ∧ i = .int .i64 (k : Int) ∧ Hid (allB p (s.data.toList.take k) = true)) (fun i _ => s.size - (intOf i).toNat)
  case atStart => exact ⟨0, by omega, rfl, Lib.hid rfl⟩
  case round =>
    obtain ⟨k, hk, rfl, HA⟩ := hrel
    by_cases hlt : k < s.size
    · obtain ⟨q, hq⟩ : ∃ q, q = p s[k].toNat := ⟨_, rfl⟩
      have c1 := HP.out s[k].toNat q s[k].toNat_lt hq
      have hts : s.data.toList.take (k + 1) = s.data.toList.take k ++ [s[k]] := by
        rw [List.take_succ_eq_append_getElem (show k < s.data.toList.length from hlt)]; rfl
      have HA2 : Hid (allB p (s.data.toList.take (k + 1)) = q) := Lib.hid (by rw [hts, allB_snoc, HA.out, ← hq]; rfl)
      clear hts hq
      cases q
      · go_wp2_with fail
        refine c1.calls ?_
        go_wp2_with fail
        go_ret
        have hf : v = false := by
          rw [HV.out]
          cases h : allB p s.data.toList with
          | false => rfl
          | true =>
            have h9 := HA2.out
            unfold allB at h h9
            rw [List.all_eq_false] at h9
            obtain ⟨x, hx, hx2⟩ := h9
            exact absurd (List.all_eq_true.1 h x (List.mem_of_mem_take hx)) hx2
        rw [hf]; exact ⟨rfl, rfl⟩
      · go_wp2_with fail
        refine c1.calls ?_
        go_wp2_with fail
        go_round
        case rel => exact ⟨k + 1, by omega, by go_num, HA2⟩
        case measure => simp [intOf]; omega
    · obtain rfl : k = s.size := by omega
      go_wp2_with fail
      go_ret
      have ht : v = true := by
        rw [HV.out]
        have h9 := HA.out
        rw [List.take_of_length_le (show s.data.toList.length ≤ s.size from Nat.le_refl _)] at h9
        exact h9
      rw [ht]; exact ⟨rfl, rfl⟩
set_option maxRecDepth 100000 in
theorem val_1 (i d : ByteArray) (h1 : ((i.size : Int) == 2) = false) : Mak 153 #[.agg #[.string i, .string d]] (.bool false) := by
  intro w
  have hp := Lib.hid (hb_new w KT trivial #[.string i, .string d] 156)
  obtain ⟨_, m0, m1⟩ := hb2 hp
  have HS := Lib.hid hp.out.since
  clear hp
  go_enter Tryd.func153, Tryd.ntmps153
  go_wp2_with fail
  go_ret
  exact ⟨rfl, HS.out⟩
set_option maxRecDepth 100000 in
theorem val_2 (i d : ByteArray) (h1 : ((i.size : Int) == 2) = true) (c1 : Ret 163 #[.string i, .func (.func 161) #[] #[]] (.bool false)) : Mak 153 #[.agg #[.string i, .string d]] (.bool false) := by
  intro w
  have hp := Lib.hid (hb_new w KT trivial #[.string i, .string d] 156)
  obtain ⟨_, m0, m1⟩ := hb2 hp
  have HS := Lib.hid hp.out.since
  clear hp
  go_enter Tryd.func153, Tryd.ntmps153
  go_wp2_with fail
  repeat (first
    | (with_reducible refine c1.calls ?_; try go_wp2_with fail))
  go_ret
  exact ⟨rfl, HS.out⟩
set_option maxRecDepth 100000 in
theorem val_3 (i d : ByteArray) (h1 : ((i.size : Int) == 2) = true) (c1 : Ret 163 #[.string i, .func (.func 161) #[] #[]] (.bool true)) (h2 : decide ((d.size : Int) ≤ 9000) = false) : Mak 153 #[.agg #[.string i, .string d]] (.bool false) := by
  intro w
  have hp := Lib.hid (hb_new w KT trivial #[.string i, .string d] 156)
  obtain ⟨_, m0, m1⟩ := hb2 hp
  have HS := Lib.hid hp.out.since
  clear hp
  go_enter Tryd.func153, Tryd.ntmps153
  go_wp2_with fail
  repeat (first
    | (with_reducible refine c1.calls ?_; try go_wp2_with fail))
  go_ret
  exact ⟨rfl, HS.out⟩
set_option maxRecDepth 100000 in
theorem val_4 (i d : ByteArray) (h1 : ((i.size : Int) == 2) = true) (c1 : Ret 163 #[.string i, .func (.func 161) #[] #[]] (.bool true)) (h2 : decide ((d.size : Int) ≤ 9000) = true) (q : Bool) (c2 : Ret 163 #[.string d, .func (.func 162) #[] #[]] (.bool q)) : Mak 153 #[.agg #[.string i, .string d]] (.bool q) := by
  intro w
  have hp := Lib.hid (hb_new w KT trivial #[.string i, .string d] 156)
  obtain ⟨_, m0, m1⟩ := hb2 hp
  have HS := Lib.hid hp.out.since
  clear hp
  go_enter Tryd.func153, Tryd.ntmps153
  go_wp2_with fail
  repeat (first
    | (with_reducible refine c1.calls ?_; try go_wp2_with fail)
    | (with_reducible refine c2.calls ?_; try go_wp2_with fail))
  go_ret
  exact ⟨rfl, HS.out⟩
theorem valid_mak (i d : ByteArray) (hi : i.size ≤ 140737488355328) (hd : d.size ≤ 140737488355328) : Mak 153 #[.agg #[.string i, .string d]] (.bool (may i d)) := by
  have c1 := all_id idN (fun c q hc hq => idc_ret c hc q hq) i hi _ rfl
  have c2 := all_data dataN (fun c q hc hq => datac_ret c hc q hq) d hd _ rfl
  unfold may
  by_cases h1 : i.size = 2
  · have h1' : ((i.size : Int) == 2) = true := by rw [beq_iff_eq]; omega
    rw [decide_eq_true h1]
    cases h2 : allB idN i.data.toList with
    | false => rw [h2] at c1; exact val_2 i d h1' c1
    | true =>
      rw [h2] at c1
      by_cases h3 : d.size ≤ 9000
      · rw [decide_eq_true h3]; exact val_4 i d h1' c1 (decide_eq_true (by omega)) _ c2
      · rw [decide_eq_false h3]; exact val_3 i d h1' c1 (decide_eq_false (by omega))
  · rw [decide_eq_false h1]; exact val_1 i d (by rw [beq_eq_false_iff_ne]; omega)
set_option maxRecDepth 100000 in
theorem hex_core (n : Int) (h0 : 0 ≤ n ∧ n ≤ 100000) (k : Int) (P H : ByteArray) (c1 : Mak 58 #[.int .u64 n, .int .i64 k] (.string P)) (c2 : Mak 164 #[.string P] (.string H)) : Mak 154 #[.int .i64 n, .int .i64 k] (.string H) := by
  intro w
  have HS := Lib.hid (Since.refl w)
  have e2 : IntKind.u64.wrap n = n := IntWalk.u64_in _ (by omega)
  go_enter Tryd.func154, Tryd.ntmps154
  go_wp2_with fail
  repeat (first
    | (with_reducible refine c1.calls HS.out ?_; intro wz hz; replace HS := Lib.hid hz; clear hz; try go_wp2_with fail)
    | (with_reducible refine c2.calls HS.out ?_; intro wz hz; replace HS := Lib.hid hz; clear hz; try go_wp2_with fail))
  go_ret
  exact ⟨rfl, HS.out⟩
theorem hex1 (n : Int) (h0 : 0 ≤ n ∧ n ≤ 100000) : Mak 154 #[.int .i64 n, .int .i64 1] (.string (hexN n 1)) := by
  refine hex_core n h0 1 (bs (RefOct.low n 1)) _ (fun w => ?_) (fun w => ?_)
  · have h := Oct.put_mid n 1 w (by omega) (by omega) (by decide) (by decide)
    rw [RefOct.put_same n 1 (by decide)] at h
    exact h
  · exact Dig.hex_any (bs (RefOct.low n 1)) w (by rw [size_bs, RefOct.low_len]; decide)
theorem hex2 (n : Int) (h0 : 0 ≤ n ∧ n ≤ 100000) : Mak 154 #[.int .i64 n, .int .i64 2] (.string (hexN n 2)) := by
  refine hex_core n h0 2 (bs (RefOct.low n 2)) _ (fun w => ?_) (fun w => ?_)
  · have h := Oct.put_mid n 2 w (by omega) (by omega) (by decide) (by decide)
    rw [RefOct.put_same n 2 (by decide)] at h
    exact h
  · exact Dig.hex_any (bs (RefOct.low n 2)) w (by rw [size_bs, RefOct.low_len]; decide)
set_option maxRecDepth 100000 in
theorem enc_bad (i d : ByteArray) (c1 : Mak 153 #[.agg #[.string i, .string d]] (.bool false)) : Mak 135 #[.agg #[.string i, .string d]] (.tuple #[.string ⟨#[]⟩, .int .i64 5]) := by
  intro w
  have hp := Lib.hid (hb_new w KT trivial #[.string i, .string d] 156)
  obtain ⟨_, m0, m1⟩ := hb2 hp
  have hg := hp.out.lg
  have HS := Lib.hid hp.out.since
  clear hp
  go_enter Tryd.func135, Tryd.ntmps135
  go_wp2_with fail
  repeat (first
    | (with_reducible refine c1.calls0 ?_; intro wz hz; replace m0 := (Below.cell hz (by exact hg)).trans m0; replace m1 := (Below.cell hz (by exact hg)).trans m1; replace hg := Nat.lt_of_lt_of_le hg (Below.size hz); replace HS := Lib.hid (HS.out.step hz); clear hz; try go_wp2_with fail))
  go_ret2
  exact ⟨rfl, HS.out⟩
set_option maxRecDepth 100000 in
set_option maxHeartbeats 8000000 in
theorem enc_short (i d H X : ByteArray) (n : Nat) (hn : n = d.size + 4) (h255 : n ≤ 255) (hX : X = bs (Oct.cat [i, H, d])) (hm : X.size ≤ 100000) (c1 : Mak 153 #[.agg #[.string i, .string d]] (.bool true)) (c2 : Mak 154 #[.int .i64 (n : Int), .int .i64 1] (.string H)) : Mak 135 #[.agg #[.string i, .string d]] (.tuple #[.string X, .int .i64 0]) := by
  intro w
  have hp := Lib.hid (hb_new w KT trivial #[.string i, .string d] 156)
  obtain ⟨_, m0, m1⟩ := hb2 hp
  have hg := hp.out.lg
  have HS := Lib.hid hp.out.since
  have e1 : IntKind.i64.wrap (4 + (d.size : Int)) = (n : Int) := by rw [IntWalk.i64_in _ (by omega)]; omega
  have HJ := Lib.hid (fun W => Oct.join_lit W [i, H, d] 3 rfl #[.string i, .string H, .string d] rfl X hX (by omega) (by decide))
  have t1 : decide ((n : Int) ≤ 255) = true := decide_eq_true (by omega)
  clear hX hn
  go_enter Tryd.func135, Tryd.ntmps135
  go_wp2_with fail
  repeat (first
    | (with_reducible refine c1.calls0 ?_; intro wz hz; replace hp := Lib.hid (hp.out.step hz); replace m0 := (Below.cell hz (by exact hg)).trans m0; replace m1 := (Below.cell hz (by exact hg)).trans m1; replace hg := Nat.lt_of_lt_of_le hg (Below.size hz); replace HS := Lib.hid (HS.out.step hz); clear hz; try go_wp2_with fail))
  clear HS m0 m1 hg
  go_region_held3 (fun W => Hid (HB w KT w.heap.size #[.string i, .string d] W) ∧ W.cell? ⟨w.heap.size, 0, none⟩ = some (.string i) ∧ W.cell? ⟨w.heap.size, 1, none⟩ = some (.string d))
    (first | exact hb2 (by assumption) | exact hb2 (hbdrew (by assumption)) | exact hb2 (hbal (by assumption)) | exact hb2 (hbal (hbdrew (by assumption))) | exact hb2 (hbdrew (hbal (by assumption))))
    (first
      | (go_at_call 154; with_reducible refine c2.calls0 ?_; intro wy hby; have hpy := hbstep hby (by first | assumption | exact hbdrew (by assumption)); clear hby)
      | (go_at_call 57; with_reducible refine (HJ.out _).mono ?_; rintro e wy ⟨rfl, hby⟩; have hpy := hbstep hby (by first | assumption | exact hbdrew (by assumption) | exact hbal (by assumption) | exact hbal (hbdrew (by assumption))); clear hby))
  all_goals
    go_wp2_with fail
    go_ret2
    exact ⟨rfl, (Hid.out (by first | assumption | exact hbdrew (by assumption)) : HB w KT w.heap.size _ _).since⟩
set_option maxRecDepth 100000 in
set_option maxHeartbeats 8000000 in
theorem enc_long (i d H0 H1 H2 X : ByteArray) (n m : Nat) (hn : n = d.size + 4) (h255 : 255 < n) (h9 : n ≤ 10000) (hm : m = d.size + 10) (hX : X = bs (Oct.cat [i, H0, H1, H2, d])) (hz : X.size ≤ 100000) (c1 : Mak 153 #[.agg #[.string i, .string d]] (.bool true))
    (c2 : Mak 154 #[.int .i64 0, .int .i64 1] (.string H0)) (c3 : Mak 154 #[.int .i64 4, .int .i64 1] (.string H1)) (c4 : Mak 154 #[.int .i64 (m : Int), .int .i64 2] (.string H2)) : Mak 135 #[.agg #[.string i, .string d]] (.tuple #[.string X, .int .i64 0]) := by
  intro w
  have hp := Lib.hid (hb_new w KT trivial #[.string i, .string d] 156)
  obtain ⟨_, m0, m1⟩ := hb2 hp
  have hg := hp.out.lg
  have HS := Lib.hid hp.out.since
  have e1 : IntKind.i64.wrap (4 + (d.size : Int)) = (n : Int) := by rw [IntWalk.i64_in _ (by omega)]; omega
  have e2 : IntKind.i64.wrap (10 + (d.size : Int)) = (m : Int) := by rw [IntWalk.i64_in _ (by omega)]; omega
  have HJ := Lib.hid (fun W => Oct.join_lit W [i, H0, H1, H2, d] 5 rfl #[.string i, .string H0, .string H1, .string H2, .string d] rfl X hX (by omega) (by decide))
  have t1 : decide ((n : Int) ≤ 255) = false := decide_eq_false (by omega)
  clear hX hn hm
  go_enter Tryd.func135, Tryd.ntmps135
  go_wp2_with fail
  repeat (first
    | (with_reducible refine c1.calls0 ?_; intro wz hz; replace hp := Lib.hid (hp.out.step hz); replace m0 := (Below.cell hz (by exact hg)).trans m0; replace m1 := (Below.cell hz (by exact hg)).trans m1; replace hg := Nat.lt_of_lt_of_le hg (Below.size hz); replace HS := Lib.hid (HS.out.step hz); clear hz; try go_wp2_with fail))
  clear HS m0 m1 hg
  go_region_held3 (fun W => Hid (HB w KT w.heap.size #[.string i, .string d] W) ∧ W.cell? ⟨w.heap.size, 0, none⟩ = some (.string i) ∧ W.cell? ⟨w.heap.size, 1, none⟩ = some (.string d))
    (first | exact hb2 (by assumption) | exact hb2 (hbdrew (by assumption)) | exact hb2 (hbal (by assumption)) | exact hb2 (hbal (hbdrew (by assumption))) | exact hb2 (hbdrew (hbal (by assumption))))
    (first
      | (go_at_call 154; with_reducible refine c2.calls0 ?_; intro wy hby; have hpy := hbstep hby (by first | assumption | exact hbdrew (by assumption)); clear hby)
      | (go_at_call 154; with_reducible refine c3.calls0 ?_; intro wy hby; have hpy := hbstep hby (by first | assumption | exact hbdrew (by assumption)); clear hby)
      | (go_at_call 154; with_reducible refine c4.calls0 ?_; intro wy hby; have hpy := hbstep hby (by first | assumption | exact hbdrew (by assumption)); clear hby)
      | (go_at_call 57; with_reducible refine (HJ.out _).mono ?_; rintro e wy ⟨rfl, hby⟩; have hpy := hbstep hby (by first | assumption | exact hbdrew (by assumption) | exact hbal (by assumption) | exact hbal (hbdrew (by assumption))); clear hby))
  all_goals
    go_wp2_with fail
    go_ret2
    exact ⟨rfl, (Hid.out (by first | assumption | exact hbdrew (by assumption)) : HB w KT w.heap.size _ _).since⟩
/-- what Encode answers -/
def encE (i d : ByteArray) : Int := if may i d then 0 else 5
def encX (i d : ByteArray) : ByteArray := if may i d then enc i d else ⟨#[]⟩
theorem may_sizes (i d : ByteArray) (h : may i d = true) : i.size = 2 ∧ d.size ≤ 9000 := by
  unfold may at h
  rw [Bool.and_eq_true, Bool.and_eq_true, Bool.and_eq_true] at h
  exact ⟨of_decide_eq_true h.1.1.1, of_decide_eq_true h.1.2⟩
theorem enc_size (i d : ByteArray) (h : may i d = true) : (enc i d).size = if d.size ≤ 251 then d.size + 4 else d.size + 10 := by
  have := (may_sizes i d h).1
  have h4 : (⟨#[48, 48, 48, 52]⟩ : ByteArray).size = 4 := rfl
  unfold enc
  split
  · rw [ByteArray.size_append, ByteArray.size_append, hexN_size]; omega
  · rw [ByteArray.size_append, ByteArray.size_append, ByteArray.size_append, hexN_size]; omega
theorem encode_mak (i d : ByteArray) (hi : i.size ≤ 140737488355328) (hd : d.size ≤ 140737488355328) (X : ByteArray) (E : Int) (hX : X = encX i d) (hE : E = encE i d) : Mak 135 #[.agg #[.string i, .string d]] (.tuple #[.string X, .int .i64 E]) := by
  subst hX hE
  have c1 := valid_mak i d hi hd
  unfold encX encE
  cases h : may i d with
  | false => rw [h] at c1; exact enc_bad i d c1
  | true =>
    rw [h] at c1
    obtain ⟨h1, h2⟩ := may_sizes i d h
    have hz := enc_size i d h
    rw [if_pos rfl, if_pos rfl]
    by_cases h3 : d.size ≤ 251
    · rw [if_pos h3] at hz
      refine enc_short i d (hexN ((d.size : Int) + 4) 1) _ (d.size + 4) rfl (by omega) ?_ (by omega) c1 (hex1 _ (by omega))
      unfold enc; rw [if_pos h3]
      apply ba_ext; rw [list_bs, app_list, app_list]; simp [Oct.cat]
    · rw [if_neg h3] at hz
      refine enc_long i d (hexN 0 1) (hexN 4 1) (hexN ((d.size : Int) + 10) 2) _ (d.size + 4) (d.size + 10) rfl (by omega) (by omega) rfl ?_ (by omega) c1 (hex1 _ (by omega)) (hex1 _ (by omega)) (hex2 _ (by omega))
      unfold enc; rw [if_neg h3]
      apply ba_ext; rw [list_bs, app_list, app_list, app_list]; simp only [Oct.cat, List.map, List.flatten_cons, List.flatten_nil, List.append_nil]
      rw [show (hexN 0 1).data.toList = [48, 48] by decide +kernel, show (hexN 4 1).data.toList = [48, 52] by decide +kernel]
      simp
end Opt
end Go.Proofs.YtgfdomdbjiflmaaDoor

/- The reference of package option: which options may be; Encode. -/
namespace Go.Proofs.YtgfdomdbjiflmaaDoor
open Go.RowKit
namespace Opt
theorem take_one (s : ByteArray) (k : Nat) (h : k < s.size) : s.data.toList.take (k + 1) = s.data.toList.take k ++ [s[k]] := by
  rw [List.take_succ_eq_append_getElem (show k < s.data.toList.length from h)]; rfl
theorem allB_bad (p : Nat → Bool) (l : List UInt8) (k : Nat) (h : allB p (l.take k) = false) : allB p l = false := by
  unfold allB at *
  rw [List.all_eq_false] at *
  obtain ⟨x, hx, hx2⟩ := h
  exact ⟨x, List.mem_of_mem_take hx, hx2⟩
theorem allB_all (p : Nat → Bool) (s : ByteArray) (h : allB p (s.data.toList.take s.size) = true) : allB p s.data.toList = true := by
  rw [List.take_of_length_le (show s.data.toList.length ≤ s.size from Nat.le_refl _)] at h; exact h
end Opt
end Go.Proofs.YtgfdomdbjiflmaaDoor
