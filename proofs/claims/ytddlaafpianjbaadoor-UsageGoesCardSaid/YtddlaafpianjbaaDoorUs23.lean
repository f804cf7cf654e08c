/- Joined texts. -/
-- PACK: YtddlaafpianjbaaDoorUsage YtddlaafpianjbaaDoorUsage2
import Derived.Test.YtddlaafpianjbaaDoorUs22
import Derived.Test.YtddlaafpianjbaaDoorUs18
import Derived.Test.YtddlaafpianjbaaDoorUs20

/- The reference of usage: what a mode says. -/
namespace Go.Proofs.YtddlaafpianjbaaDoor
open Go.RowKit
namespace Us
/-- the modes that permit an operation by itself -/
def letters (op : ByteArray) : List UInt8 :=
  if op = ⟨#[101, 110, 99, 114, 121, 112, 116]⟩ then [69, 66]
  else if op = ⟨#[100, 101, 99, 114, 121, 112, 116]⟩ then [68, 66, 84]
  else if op = ⟨#[103, 101, 110, 101, 114, 97, 116, 101]⟩ then [71, 67]
  else if op = ⟨#[118, 101, 114, 105, 102, 121]⟩ then [86, 67]
  else if op = ⟨#[115, 105, 103, 110]⟩ then [83, 84]
  else if op = ⟨#[100, 101, 114, 105, 118, 101]⟩ then [88]
  else []
def saysB (m op : ByteArray) : Bool := (letters op).any (fun c => decide (m = ⟨#[c]⟩))
def ops : List ByteArray := [⟨#[101, 110, 99, 114, 121, 112, 116]⟩, ⟨#[100, 101, 99, 114, 121, 112, 116]⟩, ⟨#[103, 101, 110, 101, 114, 97, 116, 101]⟩, ⟨#[118, 101, 114, 105, 102, 121]⟩, ⟨#[115, 105, 103, 110]⟩, ⟨#[100, 101, 114, 105, 118, 101]⟩, ⟨#[119, 114, 97, 112]⟩, ⟨#[117, 110, 119, 114, 97, 112]⟩]
theorem toList_eq (m : ByteArray) (l : List UInt8) : (m.toList == l) = decide (m = ⟨l.toArray⟩) := by
  rw [Bool.eq_iff_iff]
  simp only [beq_iff_eq, decide_eq_true_eq]
  constructor
  · intro h
    exact ba_ext (by rw [← toList_d, h])
  · intro h
    rw [h, toList_d]
set_option maxRecDepth 100000 in
set_option maxHeartbeats 1000000 in
theorem says_encrypt (m : ByteArray) (b0 b1 : Bool) (h0 : (m.toList == [69]) = b0) (h1 : (m.toList == [66]) = b1) : Ret 34 #[.string m, .string ⟨#[101, 110, 99, 114, 121, 112, 116]⟩] (.bool (b0 || b1)) := by
  intro w
  cases b0 <;> cases b1
  all_goals
    go_enter Tryd.func34, Tryd.ntmps34
    go_wp2_with fail
    go_ret
    exact ⟨rfl, rfl⟩
set_option maxRecDepth 100000 in
set_option maxHeartbeats 1000000 in
theorem says_decrypt (m : ByteArray) (b0 b1 b2 : Bool) (h0 : (m.toList == [68]) = b0) (h1 : (m.toList == [66]) = b1) (h2 : (m.toList == [84]) = b2) : Ret 34 #[.string m, .string ⟨#[100, 101, 99, 114, 121, 112, 116]⟩] (.bool (b0 || b1 || b2)) := by
  intro w
  cases b0 <;> cases b1 <;> cases b2
  all_goals
    go_enter Tryd.func34, Tryd.ntmps34
    go_wp2_with fail
    go_ret
    exact ⟨rfl, rfl⟩
set_option maxRecDepth 100000 in
set_option maxHeartbeats 1000000 in
theorem says_generate (m : ByteArray) (b0 b1 : Bool) (h0 : (m.toList == [71]) = b0) (h1 : (m.toList == [67]) = b1) : Ret 34 #[.string m, .string ⟨#[103, 101, 110, 101, 114, 97, 116, 101]⟩] (.bool (b0 || b1)) := by
  intro w
  cases b0 <;> cases b1
  all_goals
    go_enter Tryd.func34, Tryd.ntmps34
    go_wp2_with fail
    go_ret
    exact ⟨rfl, rfl⟩
set_option maxRecDepth 100000 in
set_option maxHeartbeats 1000000 in
theorem says_verify (m : ByteArray) (b0 b1 : Bool) (h0 : (m.toList == [86]) = b0) (h1 : (m.toList == [67]) = b1) : Ret 34 #[.string m, .string ⟨#[118, 101, 114, 105, 102, 121]⟩] (.bool (b0 || b1)) := by
  intro w
  cases b0 <;> cases b1
  all_goals
    go_enter Tryd.func34, Tryd.ntmps34
    go_wp2_with fail
    go_ret
    exact ⟨rfl, rfl⟩
set_option maxRecDepth 100000 in
set_option maxHeartbeats 1000000 in
theorem says_sign (m : ByteArray) (b0 b1 : Bool) (h0 : (m.toList == [83]) = b0) (h1 : (m.toList == [84]) = b1) : Ret 34 #[.string m, .string ⟨#[115, 105, 103, 110]⟩] (.bool (b0 || b1)) := by
  intro w
  cases b0 <;> cases b1
  all_goals
    go_enter Tryd.func34, Tryd.ntmps34
    go_wp2_with fail
    go_ret
    exact ⟨rfl, rfl⟩
set_option maxRecDepth 100000 in
set_option maxHeartbeats 1000000 in
theorem says_derive (m : ByteArray) (b0 : Bool) (h0 : (m.toList == [88]) = b0) : Ret 34 #[.string m, .string ⟨#[100, 101, 114, 105, 118, 101]⟩] (.bool (b0)) := by
  intro w
  cases b0
  all_goals
    go_enter Tryd.func34, Tryd.ntmps34
    go_wp2_with fail
    go_ret
    exact ⟨rfl, rfl⟩
set_option maxRecDepth 100000 in
set_option maxHeartbeats 1000000 in
theorem says_wrap (m : ByteArray) : Ret 34 #[.string m, .string ⟨#[119, 114, 97, 112]⟩] (.bool (false)) := by
  intro w
  go_enter Tryd.func34, Tryd.ntmps34
  go_wp2_with fail
  go_ret
  exact ⟨rfl, rfl⟩
set_option maxRecDepth 100000 in
set_option maxHeartbeats 1000000 in
theorem says_unwrap (m : ByteArray) : Ret 34 #[.string m, .string ⟨#[117, 110, 119, 114, 97, 112]⟩] (.bool (false)) := by
  intro w
  go_enter Tryd.func34, Tryd.ntmps34
  go_wp2_with fail
  go_ret
  exact ⟨rfl, rfl⟩
theorem says_ret (m op : ByteArray) (ho : op ∈ ops) : Ret 34 #[.string m, .string op] (.bool (saysB m op)) := by
  simp only [ops, List.mem_cons, List.not_mem_nil, or_false] at ho
  rcases ho with rfl | rfl | rfl | rfl | rfl | rfl | rfl | rfl
  · have h := says_encrypt m _ _ rfl rfl
    have e : saysB m ⟨#[101, 110, 99, 114, 121, 112, 116]⟩ = ((m.toList == [69]) || (m.toList == [66])) := by
      simp only [toList_eq]
      show [69, 66].any (fun c => decide (m = ⟨#[c]⟩)) = _
      simp [List.any_cons]
    rw [e]; exact h
  · have h := says_decrypt m _ _ _ rfl rfl rfl
    have e : saysB m ⟨#[100, 101, 99, 114, 121, 112, 116]⟩ = ((m.toList == [68]) || (m.toList == [66]) || (m.toList == [84])) := by
      simp only [toList_eq]
      show [68, 66, 84].any (fun c => decide (m = ⟨#[c]⟩)) = _
      simp [List.any_cons, Bool.or_assoc]
    rw [e]; exact h
  · have h := says_generate m _ _ rfl rfl
    have e : saysB m ⟨#[103, 101, 110, 101, 114, 97, 116, 101]⟩ = ((m.toList == [71]) || (m.toList == [67])) := by
      simp only [toList_eq]
      show [71, 67].any (fun c => decide (m = ⟨#[c]⟩)) = _
      simp [List.any_cons]
    rw [e]; exact h
  · have h := says_verify m _ _ rfl rfl
    have e : saysB m ⟨#[118, 101, 114, 105, 102, 121]⟩ = ((m.toList == [86]) || (m.toList == [67])) := by
      simp only [toList_eq]
      show [86, 67].any (fun c => decide (m = ⟨#[c]⟩)) = _
      simp [List.any_cons]
    rw [e]; exact h
  · have h := says_sign m _ _ rfl rfl
    have e : saysB m ⟨#[115, 105, 103, 110]⟩ = ((m.toList == [83]) || (m.toList == [84])) := by
      simp only [toList_eq]
      show [83, 84].any (fun c => decide (m = ⟨#[c]⟩)) = _
      simp [List.any_cons]
    rw [e]; exact h
  · have h := says_derive m _ rfl
    have e : saysB m ⟨#[100, 101, 114, 105, 118, 101]⟩ = ((m.toList == [88])) := by
      simp only [toList_eq]
      show [88].any (fun c => decide (m = ⟨#[c]⟩)) = _
      simp [List.any_cons]
    rw [e]; exact h
  · exact says_wrap m
  · exact says_unwrap m
end Us
end Go.Proofs.YtddlaafpianjbaaDoor

/- The reference of usage: may. -/
namespace Go.Proofs.YtddlaafpianjbaaDoor
open Go.RowKit
namespace Us
def isK (u : ByteArray) : Bool := decide (u = ⟨#[75, 48]⟩) || decide (u = ⟨#[75, 49]⟩)
def modesX (u : ByteArray) : ByteArray := bs (Table.lineL u.data.toList).2.2
/-- does a mode, alone or what a usage has, permit an operation by itself? -/
def allB (u m op : ByteArray) : Bool := if m = ⟨#[78]⟩ then (List.range (modesX u).size).any (fun k => saysB ((modesX u).extract k (k + 1)) op) else saysB m op
def mayB (u m op : ByteArray) : Bool :=
  if isK u then (if op = ⟨#[101, 110, 99, 114, 121, 112, 116]⟩ ∨ op = ⟨#[100, 101, 99, 114, 121, 112, 116]⟩ then false else if op = ⟨#[119, 114, 97, 112]⟩ then allB u m ⟨#[101, 110, 99, 114, 121, 112, 116]⟩ else if op = ⟨#[117, 110, 119, 114, 97, 112]⟩ then allB u m ⟨#[100, 101, 99, 114, 121, 112, 116]⟩ else allB u m op) else allB u m op
set_option maxRecDepth 100000 in
set_option maxHeartbeats 2000000 in
theorem one_n (u m v e op : ByteArray) (k0 : (u.toList == [75, 48]) = false) (k1 : (u.toList == [75, 49]) = false) (hm : (m.toList == [78]) = false) (q : Bool) (c1 : Ret 34 #[.string m, .string op] (.bool q)) : Mak 26 #[.agg #[.string u, .string m, .string v, .string e], .string op] (.bool q) := by
  intro w
  have hp := Lib.hid (hb_new w KT trivial #[.string u, .string m, .string v, .string e] 24)
  have HS := Lib.hid hp.out.since
  obtain ⟨_, m0, m1, m2, m3⟩ := hb4 hp
  go_enter Tryd.func26, Tryd.ntmps26
  go_wp2_with fail
  refine c1.calls ?_
  go_wp2_with fail
  go_ret
  exact ⟨rfl, HS.out⟩
set_option maxRecDepth 100000 in
set_option maxHeartbeats 4000000 in
theorem all_n (u m v e op : ByteArray) (k0 : (u.toList == [75, 48]) = false) (k1 : (u.toList == [75, 49]) = false) (hm : (m.toList == [78]) = true) (X : ByteArray) (hX : X.size ≤ 1000) (c2 : Ret 35 #[.string u] (.string X)) (q : Nat → Bool) (c1 : ∀ k, k < X.size → Ret 34 #[.string (X.extract k (k + 1)), .string op] (.bool (q k))) :
    Mak 26 #[.agg #[.string u, .string m, .string v, .string e], .string op] (.bool ((List.range X.size).any q)) := by
  intro w
  have hp := Lib.hid (hb_new w KT trivial #[.string u, .string m, .string v, .string e] 24)
  have HS := Lib.hid hp.out.since
  obtain ⟨_, m0, m1, m2, m3⟩ := hb4 hp
  go_enter Tryd.func26, Tryd.ntmps26
  go_wp2_with fail
  refine c2.calls ?_
  obtain ⟨n, hn⟩ : ∃ n, n = X.size := ⟨_, rfl⟩
  have HN := Lib.hid hn
  have HC := Lib.hid c1
  clear m0 m1 m2 m3 c1
  rw [← hn] at hX
  clear hn
  go_wp2_with fail
  go_loopw [6] (fun i wr => ∃ k : Nat, k ≤ n ∧ i = .int .i64 (k : Int) ∧ Hid (∀ j, j < k → q j = false) ∧ Hid (Since w wr)) (fun i _ => n - (intOf i).toNat)
  case atStart => exact ⟨0, by omega, rfl, Lib.hid (fun j hj => by omega), HS⟩
  case round =>
    clear HS
    obtain ⟨k, hk, rfl, HF, HS⟩ := hrel
    have hsz : (X.size : Int) = (n : Int) := by rw [HN.out]
    by_cases hlt : k < n
    · have i1 : decide ((k : Int) < (X.size : Int)) = true := decide_eq_true (by omega)
      have e1 : IntKind.i64.wrap ((k : Int) + 1) = (k : Int) + 1 := IntWalk.i64_in _ (by omega)
      have i2 : (0 : Int) ≤ (k : Int) := by omega
      have i3 : (k : Int) ≤ (k : Int) + 1 := by omega
      have i4 : (k : Int) + 1 ≤ (X.size : Int) := by omega
      have i5 : (k : Int).toNat = k := by omega
      have i6 : ((k : Int) + 1).toNat = k + 1 := by omega
      have c1 := HC.out k (by rw [← HN.out]; exact hlt)
      cases hq : q k with
      | true =>
        rw [hq] at c1
        have hz : (List.range X.size).any q = true := List.any_eq_true.2 ⟨k, List.mem_range.2 (by rw [← HN.out]; exact hlt), hq⟩
        clear hq
        go_wp2_with fail
        refine c1.calls ?_
        go_wp2_with fail
        go_ret
        exact ⟨by rw [hz]; rfl, HS.out⟩
      | false =>
        rw [hq] at c1
        have HF2 := Lib.hid (show ∀ j, j < k + 1 → q j = false from fun j hj => by
          by_cases h9 : j = k
          · rw [h9]; exact hq
          · exact HF.out j (by omega))
        clear hq
        go_wp2_with fail
        refine c1.calls ?_
        go_wp2_with fail
        go_roundw
        case rel => exact ⟨k + 1, by omega, by go_num, HF2, by first | exact HS | exact Lib.hid (Since.drew HS.out)⟩
        case measure => simp [intOf]; omega
    · have i1 : decide ((k : Int) < (X.size : Int)) = false := decide_eq_false (by omega)
      have hz : (List.range X.size).any q = false := by
        rw [List.any_eq_false]
        intro j hj
        rw [List.mem_range, ← HN.out] at hj
        rw [HF.out j (by omega)]; decide
      go_wp2_with fail
      go_ret
      exact ⟨by rw [hz]; rfl, HS.out⟩
set_option maxRecDepth 100000 in
set_option maxHeartbeats 2000000 in
theorem one_0w (u m v e op : ByteArray) (k0 : (u.toList == [75, 48]) = true) (o0 : (op.toList == [101, 110, 99, 114, 121, 112, 116]) = false) (o1 : (op.toList == [100, 101, 99, 114, 121, 112, 116]) = false) (o2 : (op.toList == [119, 114, 97, 112]) = true) (hm : (m.toList == [78]) = false) (q : Bool) (c1 : Ret 34 #[.string m, .string ⟨#[101, 110, 99, 114, 121, 112, 116]⟩] (.bool q)) : Mak 26 #[.agg #[.string u, .string m, .string v, .string e], .string op] (.bool q) := by
  intro w
  have hp := Lib.hid (hb_new w KT trivial #[.string u, .string m, .string v, .string e] 24)
  have HS := Lib.hid hp.out.since
  obtain ⟨_, m0, m1, m2, m3⟩ := hb4 hp
  go_enter Tryd.func26, Tryd.ntmps26
  go_wp2_with fail
  refine c1.calls ?_
  go_wp2_with fail
  go_ret
  exact ⟨rfl, HS.out⟩
set_option maxRecDepth 100000 in
set_option maxHeartbeats 4000000 in
theorem all_0w (u m v e op : ByteArray) (k0 : (u.toList == [75, 48]) = true) (o0 : (op.toList == [101, 110, 99, 114, 121, 112, 116]) = false) (o1 : (op.toList == [100, 101, 99, 114, 121, 112, 116]) = false) (o2 : (op.toList == [119, 114, 97, 112]) = true) (hm : (m.toList == [78]) = true) (X : ByteArray) (hX : X.size ≤ 1000) (c2 : Ret 35 #[.string u] (.string X)) (q : Nat → Bool) (c1 : ∀ k, k < X.size → Ret 34 #[.string (X.extract k (k + 1)), .string ⟨#[101, 110, 99, 114, 121, 112, 116]⟩] (.bool (q k))) :
    Mak 26 #[.agg #[.string u, .string m, .string v, .string e], .string op] (.bool ((List.range X.size).any q)) := by
  intro w
  have hp := Lib.hid (hb_new w KT trivial #[.string u, .string m, .string v, .string e] 24)
  have HS := Lib.hid hp.out.since
  obtain ⟨_, m0, m1, m2, m3⟩ := hb4 hp
  go_enter Tryd.func26, Tryd.ntmps26
  go_wp2_with fail
  refine c2.calls ?_
  obtain ⟨n, hn⟩ : ∃ n, n = X.size := ⟨_, rfl⟩
  have HN := Lib.hid hn
  have HC := Lib.hid c1
  clear m0 m1 m2 m3 c1
  rw [← hn] at hX
  clear hn
  go_wp2_with fail
  go_loopw [6] (fun i wr => ∃ k : Nat, k ≤ n ∧ i = .int .i64 (k : Int) ∧ Hid (∀ j, j < k → q j = false) ∧ Hid (Since w wr)) (fun i _ => n - (intOf i).toNat)
  case atStart => exact ⟨0, by omega, rfl, Lib.hid (fun j hj => by omega), HS⟩
  case round =>
    clear HS
    obtain ⟨k, hk, rfl, HF, HS⟩ := hrel
    have hsz : (X.size : Int) = (n : Int) := by rw [HN.out]
    by_cases hlt : k < n
    · have i1 : decide ((k : Int) < (X.size : Int)) = true := decide_eq_true (by omega)
      have e1 : IntKind.i64.wrap ((k : Int) + 1) = (k : Int) + 1 := IntWalk.i64_in _ (by omega)
      have i2 : (0 : Int) ≤ (k : Int) := by omega
      have i3 : (k : Int) ≤ (k : Int) + 1 := by omega
      have i4 : (k : Int) + 1 ≤ (X.size : Int) := by omega
      have i5 : (k : Int).toNat = k := by omega
      have i6 : ((k : Int) + 1).toNat = k + 1 := by omega
      have c1 := HC.out k (by rw [← HN.out]; exact hlt)
      cases hq : q k with
      | true =>
        rw [hq] at c1
        have hz : (List.range X.size).any q = true := List.any_eq_true.2 ⟨k, List.mem_range.2 (by rw [← HN.out]; exact hlt), hq⟩
        clear hq
        go_wp2_with fail
        refine c1.calls ?_
        go_wp2_with fail
        go_ret
        exact ⟨by rw [hz]; rfl, HS.out⟩
      | false =>
        rw [hq] at c1
        have HF2 := Lib.hid (show ∀ j, j < k + 1 → q j = false from fun j hj => by
          by_cases h9 : j = k
          · rw [h9]; exact hq
          · exact HF.out j (by omega))
        clear hq
        go_wp2_with fail
        refine c1.calls ?_
        go_wp2_with fail
        go_roundw
        case rel => exact ⟨k + 1, by omega, by go_num, HF2, by first | exact HS | exact Lib.hid (Since.drew HS.out)⟩
        case measure => simp [intOf]; omega
    · have i1 : decide ((k : Int) < (X.size : Int)) = false := decide_eq_false (by omega)
      have hz : (List.range X.size).any q = false := by
        rw [List.any_eq_false]
        intro j hj
        rw [List.mem_range, ← HN.out] at hj
        rw [HF.out j (by omega)]; decide
      go_wp2_with fail
      go_ret
      exact ⟨by rw [hz]; rfl, HS.out⟩
set_option maxRecDepth 100000 in
set_option maxHeartbeats 2000000 in
theorem one_0u (u m v e op : ByteArray) (k0 : (u.toList == [75, 48]) = true) (o0 : (op.toList == [101, 110, 99, 114, 121, 112, 116]) = false) (o1 : (op.toList == [100, 101, 99, 114, 121, 112, 116]) = false) (o2 : (op.toList == [119, 114, 97, 112]) = false) (o3 : (op.toList == [117, 110, 119, 114, 97, 112]) = true) (hm : (m.toList == [78]) = false) (q : Bool) (c1 : Ret 34 #[.string m, .string ⟨#[100, 101, 99, 114, 121, 112, 116]⟩] (.bool q)) : Mak 26 #[.agg #[.string u, .string m, .string v, .string e], .string op] (.bool q) := by
  intro w
  have hp := Lib.hid (hb_new w KT trivial #[.string u, .string m, .string v, .string e] 24)
  have HS := Lib.hid hp.out.since
  obtain ⟨_, m0, m1, m2, m3⟩ := hb4 hp
  go_enter Tryd.func26, Tryd.ntmps26
  go_wp2_with fail
  refine c1.calls ?_
  go_wp2_with fail
  go_ret
  exact ⟨rfl, HS.out⟩
set_option maxRecDepth 100000 in
set_option maxHeartbeats 4000000 in
theorem all_0u (u m v e op : ByteArray) (k0 : (u.toList == [75, 48]) = true) (o0 : (op.toList == [101, 110, 99, 114, 121, 112, 116]) = false) (o1 : (op.toList == [100, 101, 99, 114, 121, 112, 116]) = false) (o2 : (op.toList == [119, 114, 97, 112]) = false) (o3 : (op.toList == [117, 110, 119, 114, 97, 112]) = true) (hm : (m.toList == [78]) = true) (X : ByteArray) (hX : X.size ≤ 1000) (c2 : Ret 35 #[.string u] (.string X)) (q : Nat → Bool) (c1 : ∀ k, k < X.size → Ret 34 #[.string (X.extract k (k + 1)), .string ⟨#[100, 101, 99, 114, 121, 112, 116]⟩] (.bool (q k))) :
    Mak 26 #[.agg #[.string u, .string m, .string v, .string e], .string op] (.bool ((List.range X.size).any q)) := by
  intro w
  have hp := Lib.hid (hb_new w KT trivial #[.string u, .string m, .string v, .string e] 24)
  have HS := Lib.hid hp.out.since
  obtain ⟨_, m0, m1, m2, m3⟩ := hb4 hp
  go_enter Tryd.func26, Tryd.ntmps26
  go_wp2_with fail
  refine c2.calls ?_
  obtain ⟨n, hn⟩ : ∃ n, n = X.size := ⟨_, rfl⟩
  have HN := Lib.hid hn
  have HC := Lib.hid c1
  clear m0 m1 m2 m3 c1
  rw [← hn] at hX
  clear hn
  go_wp2_with fail
  go_loopw [6] (fun i wr => ∃ k : Nat, k ≤ n ∧ i = .int .i64 (k : Int) ∧ Hid (∀ j, j < k → q j = false) ∧ Hid (Since w wr)) (fun i _ => n - (intOf i).toNat)
  case atStart => exact ⟨0, by omega, rfl, Lib.hid (fun j hj => by omega), HS⟩
  case round =>
    clear HS
    obtain ⟨k, hk, rfl, HF, HS⟩ := hrel
    have hsz : (X.size : Int) = (n : Int) := by rw [HN.out]
    by_cases hlt : k < n
    · have i1 : decide ((k : Int) < (X.size : Int)) = true := decide_eq_true (by omega)
      have e1 : IntKind.i64.wrap ((k : Int) + 1) = (k : Int) + 1 := IntWalk.i64_in _ (by omega)
      have i2 : (0 : Int) ≤ (k : Int) := by omega
      have i3 : (k : Int) ≤ (k : Int) + 1 := by omega
      have i4 : (k : Int) + 1 ≤ (X.size : Int) := by omega
      have i5 : (k : Int).toNat = k := by omega
      have i6 : ((k : Int) + 1).toNat = k + 1 := by omega
      have c1 := HC.out k (by rw [← HN.out]; exact hlt)
      cases hq : q k with
      | true =>
        rw [hq] at c1
        have hz : (List.range X.size).any q = true := List.any_eq_true.2 ⟨k, List.mem_range.2 (by rw [← HN.out]; exact hlt), hq⟩
        clear hq
        go_wp2_with fail
        refine c1.calls ?_
        go_wp2_with fail
        go_ret
        exact ⟨by rw [hz]; rfl, HS.out⟩
      | false =>
        rw [hq] at c1
        have HF2 := Lib.hid (show ∀ j, j < k + 1 → q j = false from fun j hj => by
          by_cases h9 : j = k
          · rw [h9]; exact hq
          · exact HF.out j (by omega))
        clear hq
        go_wp2_with fail
        refine c1.calls ?_
        go_wp2_with fail
        go_roundw
        case rel => exact ⟨k + 1, by omega, by go_num, HF2, by first | exact HS | exact Lib.hid (Since.drew HS.out)⟩
        case measure => simp [intOf]; omega
    · have i1 : decide ((k : Int) < (X.size : Int)) = false := decide_eq_false (by omega)
      have hz : (List.range X.size).any q = false := by
        rw [List.any_eq_false]
        intro j hj
        rw [List.mem_range, ← HN.out] at hj
        rw [HF.out j (by omega)]; decide
      go_wp2_with fail
      go_ret
      exact ⟨by rw [hz]; rfl, HS.out⟩
set_option maxRecDepth 100000 in
set_option maxHeartbeats 2000000 in
theorem one_0x (u m v e op : ByteArray) (k0 : (u.toList == [75, 48]) = true) (o0 : (op.toList == [101, 110, 99, 114, 121, 112, 116]) = false) (o1 : (op.toList == [100, 101, 99, 114, 121, 112, 116]) = false) (o2 : (op.toList == [119, 114, 97, 112]) = false) (o3 : (op.toList == [117, 110, 119, 114, 97, 112]) = false) (hm : (m.toList == [78]) = false) (q : Bool) (c1 : Ret 34 #[.string m, .string op] (.bool q)) : Mak 26 #[.agg #[.string u, .string m, .string v, .string e], .string op] (.bool q) := by
  intro w
  have hp := Lib.hid (hb_new w KT trivial #[.string u, .string m, .string v, .string e] 24)
  have HS := Lib.hid hp.out.since
  obtain ⟨_, m0, m1, m2, m3⟩ := hb4 hp
  go_enter Tryd.func26, Tryd.ntmps26
  go_wp2_with fail
  refine c1.calls ?_
  go_wp2_with fail
  go_ret
  exact ⟨rfl, HS.out⟩
set_option maxRecDepth 100000 in
set_option maxHeartbeats 4000000 in
theorem all_0x (u m v e op : ByteArray) (k0 : (u.toList == [75, 48]) = true) (o0 : (op.toList == [101, 110, 99, 114, 121, 112, 116]) = false) (o1 : (op.toList == [100, 101, 99, 114, 121, 112, 116]) = false) (o2 : (op.toList == [119, 114, 97, 112]) = false) (o3 : (op.toList == [117, 110, 119, 114, 97, 112]) = false) (hm : (m.toList == [78]) = true) (X : ByteArray) (hX : X.size ≤ 1000) (c2 : Ret 35 #[.string u] (.string X)) (q : Nat → Bool) (c1 : ∀ k, k < X.size → Ret 34 #[.string (X.extract k (k + 1)), .string op] (.bool (q k))) :
    Mak 26 #[.agg #[.string u, .string m, .string v, .string e], .string op] (.bool ((List.range X.size).any q)) := by
  intro w
  have hp := Lib.hid (hb_new w KT trivial #[.string u, .string m, .string v, .string e] 24)
  have HS := Lib.hid hp.out.since
  obtain ⟨_, m0, m1, m2, m3⟩ := hb4 hp
  go_enter Tryd.func26, Tryd.ntmps26
  go_wp2_with fail
  refine c2.calls ?_
  obtain ⟨n, hn⟩ : ∃ n, n = X.size := ⟨_, rfl⟩
  have HN := Lib.hid hn
  have HC := Lib.hid c1
  clear m0 m1 m2 m3 c1
  rw [← hn] at hX
  clear hn
  go_wp2_with fail
  go_loopw [6] (fun i wr => ∃ k : Nat, k ≤ n ∧ i = .int .i64 (k : Int) ∧ Hid (∀ j, j < k → q j = false) ∧ Hid (Since w wr)) (fun i _ => n - (intOf i).toNat)
  case atStart => exact ⟨0, by omega, rfl, Lib.hid (fun j hj => by omega), HS⟩
  case round =>
    clear HS
    obtain ⟨k, hk, rfl, HF, HS⟩ := hrel
    have hsz : (X.size : Int) = (n : Int) := by rw [HN.out]
    by_cases hlt : k < n
    · have i1 : decide ((k : Int) < (X.size : Int)) = true := decide_eq_true (by omega)
      have e1 : IntKind.i64.wrap ((k : Int) + 1) = (k : Int) + 1 := IntWalk.i64_in _ (by omega)
      have i2 : (0 : Int) ≤ (k : Int) := by omega
      have i3 : (k : Int) ≤ (k : Int) + 1 := by omega
      have i4 : (k : Int) + 1 ≤ (X.size : Int) := by omega
      have i5 : (k : Int).toNat = k := by omega
      have i6 : ((k : Int) + 1).toNat = k + 1 := by omega
      have c1 := HC.out k (by rw [← HN.out]; exact hlt)
      cases hq : q k with
      | true =>
        rw [hq] at c1
        have hz : (List.range X.size).any q = true := List.any_eq_true.2 ⟨k, List.mem_range.2 (by rw [← HN.out]; exact hlt), hq⟩
        clear hq
        go_wp2_with fail
        refine c1.calls ?_
        go_wp2_with fail
        go_ret
        exact ⟨by rw [hz]; rfl, HS.out⟩
      | false =>
        rw [hq] at c1
        have HF2 := Lib.hid (show ∀ j, j < k + 1 → q j = false from fun j hj => by
          by_cases h9 : j = k
          · rw [h9]; exact hq
          · exact HF.out j (by omega))
        clear hq
        go_wp2_with fail
        refine c1.calls ?_
        go_wp2_with fail
        go_roundw
        case rel => exact ⟨k + 1, by omega, by go_num, HF2, by first | exact HS | exact Lib.hid (Since.drew HS.out)⟩
        case measure => simp [intOf]; omega
    · have i1 : decide ((k : Int) < (X.size : Int)) = false := decide_eq_false (by omega)
      have hz : (List.range X.size).any q = false := by
        rw [List.any_eq_false]
        intro j hj
        rw [List.mem_range, ← HN.out] at hj
        rw [HF.out j (by omega)]; decide
      go_wp2_with fail
      go_ret
      exact ⟨by rw [hz]; rfl, HS.out⟩
set_option maxRecDepth 100000 in
set_option maxHeartbeats 2000000 in
theorem one_1w (u m v e op : ByteArray) (k0 : (u.toList == [75, 48]) = false) (k1 : (u.toList == [75, 49]) = true) (o0 : (op.toList == [101, 110, 99, 114, 121, 112, 116]) = false) (o1 : (op.toList == [100, 101, 99, 114, 121, 112, 116]) = false) (o2 : (op.toList == [119, 114, 97, 112]) = true) (hm : (m.toList == [78]) = false) (q : Bool) (c1 : Ret 34 #[.string m, .string ⟨#[101, 110, 99, 114, 121, 112, 116]⟩] (.bool q)) : Mak 26 #[.agg #[.string u, .string m, .string v, .string e], .string op] (.bool q) := by
  intro w
  have hp := Lib.hid (hb_new w KT trivial #[.string u, .string m, .string v, .string e] 24)
  have HS := Lib.hid hp.out.since
  obtain ⟨_, m0, m1, m2, m3⟩ := hb4 hp
  go_enter Tryd.func26, Tryd.ntmps26
  go_wp2_with fail
  refine c1.calls ?_
  go_wp2_with fail
  go_ret
  exact ⟨rfl, HS.out⟩
set_option maxRecDepth 100000 in
set_option maxHeartbeats 4000000 in
theorem all_1w (u m v e op : ByteArray) (k0 : (u.toList == [75, 48]) = false) (k1 : (u.toList == [75, 49]) = true) (o0 : (op.toList == [101, 110, 99, 114, 121, 112, 116]) = false) (o1 : (op.toList == [100, 101, 99, 114, 121, 112, 116]) = false) (o2 : (op.toList == [119, 114, 97, 112]) = true) (hm : (m.toList == [78]) = true) (X : ByteArray) (hX : X.size ≤ 1000) (c2 : Ret 35 #[.string u] (.string X)) (q : Nat → Bool) (c1 : ∀ k, k < X.size → Ret 34 #[.string (X.extract k (k + 1)), .string ⟨#[101, 110, 99, 114, 121, 112, 116]⟩] (.bool (q k))) :
    Mak 26 #[.agg #[.string u, .string m, .string v, .string e], .string op] (.bool ((List.range X.size).any q)) := by
  intro w
  have hp := Lib.hid (hb_new w KT trivial #[.string u, .string m, .string v, .string e] 24)
  have HS := Lib.hid hp.out.since
  obtain ⟨_, m0, m1, m2, m3⟩ := hb4 hp
  go_enter Tryd.func26, Tryd.ntmps26
  go_wp2_with fail
  refine c2.calls ?_
  obtain ⟨n, hn⟩ : ∃ n, n = X.size := ⟨_, rfl⟩
  have HN := Lib.hid hn
  have HC := Lib.hid c1
  clear m0 m1 m2 m3 c1
  rw [← hn] at hX
  clear hn
  go_wp2_with fail
  go_loopw [6] (fun i wr => ∃ k : Nat, k ≤ n ∧ i = .int .i64 (k : Int) ∧ Hid (∀ j, j < k → q j = false) ∧ Hid (Since w wr)) (fun i _ => n - (intOf i).toNat)
  case atStart => exact ⟨0, by omega, rfl, Lib.hid (fun j hj => by omega), HS⟩
  case round =>
    clear HS
    obtain ⟨k, hk, rfl, HF, HS⟩ := hrel
    have hsz : (X.size : Int) = (n : Int) := by rw [HN.out]
    by_cases hlt : k < n
    · have i1 : decide ((k : Int) < (X.size : Int)) = true := decide_eq_true (by omega)
      have e1 : IntKind.i64.wrap ((k : Int) + 1) = (k : Int) + 1 := IntWalk.i64_in _ (by omega)
      have i2 : (0 : Int) ≤ (k : Int) := by omega
      have i3 : (k : Int) ≤ (k : Int) + 1 := by omega
      have i4 : (k : Int) + 1 ≤ (X.size : Int) := by omega
      have i5 : (k : Int).toNat = k := by omega
      have i6 : ((k : Int) + 1).toNat = k + 1 := by omega
      have c1 := HC.out k (by rw [← HN.out]; exact hlt)
      cases hq : q k with
      | true =>
        rw [hq] at c1
        have hz : (List.range X.size).any q = true := List.any_eq_true.2 ⟨k, List.mem_range.2 (by rw [← HN.out]; exact hlt), hq⟩
        clear hq
        go_wp2_with fail
        refine c1.calls ?_
        go_wp2_with fail
        go_ret
        exact ⟨by rw [hz]; rfl, HS.out⟩
      | false =>
        rw [hq] at c1
        have HF2 := Lib.hid (show ∀ j, j < k + 1 → q j = false from fun j hj => by
          by_cases h9 : j = k
          · rw [h9]; exact hq
          · exact HF.out j (by omega))
        clear hq
        go_wp2_with fail
        refine c1.calls ?_
        go_wp2_with fail
        go_roundw
        case rel => exact ⟨k + 1, by omega, by go_num, HF2, by first | exact HS | exact Lib.hid (Since.drew HS.out)⟩
        case measure => simp [intOf]; omega
    · have i1 : decide ((k : Int) < (X.size : Int)) = false := decide_eq_false (by omega)
      have hz : (List.range X.size).any q = false := by
        rw [List.any_eq_false]
        intro j hj
        rw [List.mem_range, ← HN.out] at hj
        rw [HF.out j (by omega)]; decide
      go_wp2_with fail
      go_ret
      exact ⟨by rw [hz]; rfl, HS.out⟩
set_option maxRecDepth 100000 in
set_option maxHeartbeats 2000000 in
theorem one_1u (u m v e op : ByteArray) (k0 : (u.toList == [75, 48]) = false) (k1 : (u.toList == [75, 49]) = true) (o0 : (op.toList == [101, 110, 99, 114, 121, 112, 116]) = false) (o1 : (op.toList == [100, 101, 99, 114, 121, 112, 116]) = false) (o2 : (op.toList == [119, 114, 97, 112]) = false) (o3 : (op.toList == [117, 110, 119, 114, 97, 112]) = true) (hm : (m.toList == [78]) = false) (q : Bool) (c1 : Ret 34 #[.string m, .string ⟨#[100, 101, 99, 114, 121, 112, 116]⟩] (.bool q)) : Mak 26 #[.agg #[.string u, .string m, .string v, .string e], .string op] (.bool q) := by
  intro w
  have hp := Lib.hid (hb_new w KT trivial #[.string u, .string m, .string v, .string e] 24)
  have HS := Lib.hid hp.out.since
  obtain ⟨_, m0, m1, m2, m3⟩ := hb4 hp
  go_enter Tryd.func26, Tryd.ntmps26
  go_wp2_with fail
  refine c1.calls ?_
  go_wp2_with fail
  go_ret
  exact ⟨rfl, HS.out⟩
set_option maxRecDepth 100000 in
set_option maxHeartbeats 4000000 in
theorem all_1u (u m v e op : ByteArray) (k0 : (u.toList == [75, 48]) = false) (k1 : (u.toList == [75, 49]) = true) (o0 : (op.toList == [101, 110, 99, 114, 121, 112, 116]) = false) (o1 : (op.toList == [100, 101, 99, 114, 121, 112, 116]) = false) (o2 : (op.toList == [119, 114, 97, 112]) = false) (o3 : (op.toList == [117, 110, 119, 114, 97, 112]) = true) (hm : (m.toList == [78]) = true) (X : ByteArray) (hX : X.size ≤ 1000) (c2 : Ret 35 #[.string u] (.string X)) (q : Nat → Bool) (c1 : ∀ k, k < X.size → Ret 34 #[.string (X.extract k (k + 1)), .string ⟨#[100, 101, 99, 114, 121, 112, 116]⟩] (.bool (q k))) :
    Mak 26 #[.agg #[.string u, .string m, .string v, .string e], .string op] (.bool ((List.range X.size).any q)) := by
  intro w
  have hp := Lib.hid (hb_new w KT trivial #[.string u, .string m, .string v, .string e] 24)
  have HS := Lib.hid hp.out.since
  obtain ⟨_, m0, m1, m2, m3⟩ := hb4 hp
  go_enter Tryd.func26, Tryd.ntmps26
  go_wp2_with fail
  refine c2.calls ?_
  obtain ⟨n, hn⟩ : ∃ n, n = X.size := ⟨_, rfl⟩
  have HN := Lib.hid hn
  have HC := Lib.hid c1
  clear m0 m1 m2 m3 c1
  rw [← hn] at hX
  clear hn
  go_wp2_with fail
  go_loopw [6] (fun i wr => ∃ k : Nat, k ≤ n ∧ i = .int .i64 (k : Int) ∧ Hid (∀ j, j < k → q j = false) ∧ Hid (Since w wr)) (fun i _ => n - (intOf i).toNat)
  case atStart => exact ⟨0, by omega, rfl, Lib.hid (fun j hj => by omega), HS⟩
  case round =>
    clear HS
    obtain ⟨k, hk, rfl, HF, HS⟩ := hrel
    have hsz : (X.size : Int) = (n : Int) := by rw [HN.out]
    by_cases hlt : k < n
    · have i1 : decide ((k : Int) < (X.size : Int)) = true := decide_eq_true (by omega)
      have e1 : IntKind.i64.wrap ((k : Int) + 1) = (k : Int) + 1 := IntWalk.i64_in _ (by omega)
      have i2 : (0 : Int) ≤ (k : Int) := by omega
      have i3 : (k : Int) ≤ (k : Int) + 1 := by omega
      have i4 : (k : Int) + 1 ≤ (X.size : Int) := by omega
      have i5 : (k : Int).toNat = k := by omega
      have i6 : ((k : Int) + 1).toNat = k + 1 := by omega
      have c1 := HC.out k (by rw [← HN.out]; exact hlt)
      cases hq : q k with
      | true =>
        rw [hq] at c1
        have hz : (List.range X.size).any q = true := List.any_eq_true.2 ⟨k, List.mem_range.2 (by rw [← HN.out]; exact hlt), hq⟩
        clear hq
        go_wp2_with fail
        refine c1.calls ?_
        go_wp2_with fail
        go_ret
        exact ⟨by rw [hz]; rfl, HS.out⟩
      | false =>
        rw [hq] at c1
        have HF2 := Lib.hid (show ∀ j, j < k + 1 → q j = false from fun j hj => by
          by_cases h9 : j = k
          · rw [h9]; exact hq
          · exact HF.out j (by omega))
        clear hq
        go_wp2_with fail
        refine c1.calls ?_
        go_wp2_with fail
        go_roundw
        case rel => exact ⟨k + 1, by omega, by go_num, HF2, by first | exact HS | exact Lib.hid (Since.drew HS.out)⟩
        case measure => simp [intOf]; omega
    · have i1 : decide ((k : Int) < (X.size : Int)) = false := decide_eq_false (by omega)
      have hz : (List.range X.size).any q = false := by
        rw [List.any_eq_false]
        intro j hj
        rw [List.mem_range, ← HN.out] at hj
        rw [HF.out j (by omega)]; decide
      go_wp2_with fail
      go_ret
      exact ⟨by rw [hz]; rfl, HS.out⟩
set_option maxRecDepth 100000 in
set_option maxHeartbeats 2000000 in
theorem one_1x (u m v e op : ByteArray) (k0 : (u.toList == [75, 48]) = false) (k1 : (u.toList == [75, 49]) = true) (o0 : (op.toList == [101, 110, 99, 114, 121, 112, 116]) = false) (o1 : (op.toList == [100, 101, 99, 114, 121, 112, 116]) = false) (o2 : (op.toList == [119, 114, 97, 112]) = false) (o3 : (op.toList == [117, 110, 119, 114, 97, 112]) = false) (hm : (m.toList == [78]) = false) (q : Bool) (c1 : Ret 34 #[.string m, .string op] (.bool q)) : Mak 26 #[.agg #[.string u, .string m, .string v, .string e], .string op] (.bool q) := by
  intro w
  have hp := Lib.hid (hb_new w KT trivial #[.string u, .string m, .string v, .string e] 24)
  have HS := Lib.hid hp.out.since
  obtain ⟨_, m0, m1, m2, m3⟩ := hb4 hp
  go_enter Tryd.func26, Tryd.ntmps26
  go_wp2_with fail
  refine c1.calls ?_
  go_wp2_with fail
  go_ret
  exact ⟨rfl, HS.out⟩
set_option maxRecDepth 100000 in
set_option maxHeartbeats 4000000 in
theorem all_1x (u m v e op : ByteArray) (k0 : (u.toList == [75, 48]) = false) (k1 : (u.toList == [75, 49]) = true) (o0 : (op.toList == [101, 110, 99, 114, 121, 112, 116]) = false) (o1 : (op.toList == [100, 101, 99, 114, 121, 112, 116]) = false) (o2 : (op.toList == [119, 114, 97, 112]) = false) (o3 : (op.toList == [117, 110, 119, 114, 97, 112]) = false) (hm : (m.toList == [78]) = true) (X : ByteArray) (hX : X.size ≤ 1000) (c2 : Ret 35 #[.string u] (.string X)) (q : Nat → Bool) (c1 : ∀ k, k < X.size → Ret 34 #[.string (X.extract k (k + 1)), .string op] (.bool (q k))) :
    Mak 26 #[.agg #[.string u, .string m, .string v, .string e], .string op] (.bool ((List.range X.size).any q)) := by
  intro w
  have hp := Lib.hid (hb_new w KT trivial #[.string u, .string m, .string v, .string e] 24)
  have HS := Lib.hid hp.out.since
  obtain ⟨_, m0, m1, m2, m3⟩ := hb4 hp
  go_enter Tryd.func26, Tryd.ntmps26
  go_wp2_with fail
  refine c2.calls ?_
  obtain ⟨n, hn⟩ : ∃ n, n = X.size := ⟨_, rfl⟩
  have HN := Lib.hid hn
  have HC := Lib.hid c1
  clear m0 m1 m2 m3 c1
  rw [← hn] at hX
  clear hn
  go_wp2_with fail
  go_loopw [6] (fun i wr => ∃ k : Nat, k ≤ n ∧ i = .int .i64 (k : Int) ∧ Hid (∀ j, j < k → q j = false) ∧ Hid (Since w wr)) (fun i _ => n - (intOf i).toNat)
  case atStart => exact ⟨0, by omega, rfl, Lib.hid (fun j hj => by omega), HS⟩
  case round =>
    clear HS
    obtain ⟨k, hk, rfl, HF, HS⟩ := hrel
    have hsz : (X.size : Int) = (n : Int) := by rw [HN.out]
    by_cases hlt : k < n
    · have i1 : decide ((k : Int) < (X.size : Int)) = true := decide_eq_true (by omega)
      have e1 : IntKind.i64.wrap ((k : Int) + 1) = (k : Int) + 1 := IntWalk.i64_in _ (by omega)
      have i2 : (0 : Int) ≤ (k : Int) := by omega
      have i3 : (k : Int) ≤ (k : Int) + 1 := by omega
      have i4 : (k : Int) + 1 ≤ (X.size : Int) := by omega
      have i5 : (k : Int).toNat = k := by omega
      have i6 : ((k : Int) + 1).toNat = k + 1 := by omega
      have c1 := HC.out k (by rw [← HN.out]; exact hlt)
      cases hq : q k with
      | true =>
        rw [hq] at c1
        have hz : (List.range X.size).any q = true := List.any_eq_true.2 ⟨k, List.mem_range.2 (by rw [← HN.out]; exact hlt), hq⟩
        clear hq
        go_wp2_with fail
        refine c1.calls ?_
        go_wp2_with fail
        go_ret
        exact ⟨by rw [hz]; rfl, HS.out⟩
      | false =>
        rw [hq] at c1
        have HF2 := Lib.hid (show ∀ j, j < k + 1 → q j = false from fun j hj => by
          by_cases h9 : j = k
          · rw [h9]; exact hq
          · exact HF.out j (by omega))
        clear hq
        go_wp2_with fail
        refine c1.calls ?_
        go_wp2_with fail
        go_roundw
        case rel => exact ⟨k + 1, by omega, by go_num, HF2, by first | exact HS | exact Lib.hid (Since.drew HS.out)⟩
        case measure => simp [intOf]; omega
    · have i1 : decide ((k : Int) < (X.size : Int)) = false := decide_eq_false (by omega)
      have hz : (List.range X.size).any q = false := by
        rw [List.any_eq_false]
        intro j hj
        rw [List.mem_range, ← HN.out] at hj
        rw [HF.out j (by omega)]; decide
      go_wp2_with fail
      go_ret
      exact ⟨by rw [hz]; rfl, HS.out⟩
set_option maxRecDepth 100000 in
set_option maxHeartbeats 1000000 in
theorem not_0e (u m v e op : ByteArray) (k0 : (u.toList == [75, 48]) = true) (o0 : (op.toList == [101, 110, 99, 114, 121, 112, 116]) = true) : Mak 26 #[.agg #[.string u, .string m, .string v, .string e], .string op] (.bool false) := by
  intro w
  have hp := Lib.hid (hb_new w KT trivial #[.string u, .string m, .string v, .string e] 24)
  have HS := Lib.hid hp.out.since
  obtain ⟨_, m0, m1, m2, m3⟩ := hb4 hp
  go_enter Tryd.func26, Tryd.ntmps26
  go_wp2_with fail
  go_ret
  exact ⟨rfl, HS.out⟩
set_option maxRecDepth 100000 in
set_option maxHeartbeats 1000000 in
theorem not_0d (u m v e op : ByteArray) (k0 : (u.toList == [75, 48]) = true) (o0 : (op.toList == [101, 110, 99, 114, 121, 112, 116]) = false) (o1 : (op.toList == [100, 101, 99, 114, 121, 112, 116]) = true) : Mak 26 #[.agg #[.string u, .string m, .string v, .string e], .string op] (.bool false) := by
  intro w
  have hp := Lib.hid (hb_new w KT trivial #[.string u, .string m, .string v, .string e] 24)
  have HS := Lib.hid hp.out.since
  obtain ⟨_, m0, m1, m2, m3⟩ := hb4 hp
  go_enter Tryd.func26, Tryd.ntmps26
  go_wp2_with fail
  go_ret
  exact ⟨rfl, HS.out⟩
set_option maxRecDepth 100000 in
set_option maxHeartbeats 1000000 in
theorem not_1e (u m v e op : ByteArray) (k0 : (u.toList == [75, 48]) = false) (k1 : (u.toList == [75, 49]) = true) (o0 : (op.toList == [101, 110, 99, 114, 121, 112, 116]) = true) : Mak 26 #[.agg #[.string u, .string m, .string v, .string e], .string op] (.bool false) := by
  intro w
  have hp := Lib.hid (hb_new w KT trivial #[.string u, .string m, .string v, .string e] 24)
  have HS := Lib.hid hp.out.since
  obtain ⟨_, m0, m1, m2, m3⟩ := hb4 hp
  go_enter Tryd.func26, Tryd.ntmps26
  go_wp2_with fail
  go_ret
  exact ⟨rfl, HS.out⟩
set_option maxRecDepth 100000 in
set_option maxHeartbeats 1000000 in
theorem not_1d (u m v e op : ByteArray) (k0 : (u.toList == [75, 48]) = false) (k1 : (u.toList == [75, 49]) = true) (o0 : (op.toList == [101, 110, 99, 114, 121, 112, 116]) = false) (o1 : (op.toList == [100, 101, 99, 114, 121, 112, 116]) = true) : Mak 26 #[.agg #[.string u, .string m, .string v, .string e], .string op] (.bool false) := by
  intro w
  have hp := Lib.hid (hb_new w KT trivial #[.string u, .string m, .string v, .string e] 24)
  have HS := Lib.hid hp.out.since
  obtain ⟨_, m0, m1, m2, m3⟩ := hb4 hp
  go_enter Tryd.func26, Tryd.ntmps26
  go_wp2_with fail
  go_ret
  exact ⟨rfl, HS.out⟩

theorem line_mem (u : List UInt8) : Table.lineL u ∈ Table.none3 :: Table.rows := by
  unfold Table.lineL
  split
  · decide
  · split
    · exact List.mem_cons_self
    · cases h : Table.rows.find? (fun r => r.1 == u) with
      | none => exact List.mem_cons_self
      | some r => exact List.mem_cons_of_mem _ (List.mem_of_find?_eq_some h)
theorem modes_all : ∀ r ∈ Table.none3 :: Table.rows, r.2.2.length ≤ 20 ∧ ∀ c ∈ r.2.2, 65 ≤ c.toNat ∧ c.toNat ≤ 90 := by decide
theorem modes_list (u : ByteArray) : (modesX u).data.toList = (Table.lineL u.data.toList).2.2 := by unfold modesX; rw [list_bs]
theorem modes_small (u : ByteArray) : (modesX u).size ≤ 20 := by
  unfold modesX
  rw [size_bs]
  exact (modes_all _ (line_mem _)).1
theorem modes_cap (u : ByteArray) (c : UInt8) (h : c ∈ (modesX u).data.toList) : 65 ≤ c.toNat ∧ c.toNat ≤ 90 := by
  rw [modes_list] at h
  exact (modes_all _ (line_mem _)).2 c h
theorem lT {x : ByteArray} {l : List UInt8} (h : x = ⟨l.toArray⟩) : (x.toList == l) = true := by rw [toList_eq]; exact decide_eq_true h
theorem lF {x : ByteArray} {l : List UInt8} (h : x ≠ ⟨l.toArray⟩) : (x.toList == l) = false := by rw [toList_eq]; exact decide_eq_false h
theorem may_mak (u m v e op : ByteArray) (ho : op ∈ ops) : Mak 26 #[.agg #[.string u, .string m, .string v, .string e], .string op] (.bool (mayB u m op)) := by
  have cm := Table.rmodes_ret u (modesX u) rfl
  have zm : (modesX u).size ≤ 1000 := by have := modes_small u; omega
  by_cases a0 : u = ⟨#[75, 48]⟩
  · have hk : isK u = true := by unfold isK; rw [decide_eq_true a0]; rfl
    unfold mayB
    rw [if_pos hk]
    by_cases h1 : op = ⟨#[101, 110, 99, 114, 121, 112, 116]⟩
    · rw [if_pos (Or.inl h1)]
      exact not_0e u m v e op (lT a0) (lT h1)
    by_cases h2 : op = ⟨#[100, 101, 99, 114, 121, 112, 116]⟩
    · rw [if_pos (Or.inr h2)]
      exact not_0d u m v e op (lT a0) (lF h1) (lT h2)
    rw [if_neg (fun h => h.elim h1 h2)]
    by_cases h3 : op = ⟨#[119, 114, 97, 112]⟩
    · rw [if_pos h3]
      by_cases hm : m = ⟨#[78]⟩
      · unfold allB
        rw [if_pos hm]
        exact all_0w u m v e op (lT a0) (lF h1) (lF h2) (lT h3) (lT hm) (modesX u) zm cm _ (fun k _ => says_ret _ _ (by simp [ops]))
      · unfold allB
        rw [if_neg hm]
        exact one_0w u m v e op (lT a0) (lF h1) (lF h2) (lT h3) (lF hm) _ (says_ret _ _ (by simp [ops]))
    rw [if_neg h3]
    by_cases h4 : op = ⟨#[117, 110, 119, 114, 97, 112]⟩
    · rw [if_pos h4]
      by_cases hm : m = ⟨#[78]⟩
      · unfold allB
        rw [if_pos hm]
        exact all_0u u m v e op (lT a0) (lF h1) (lF h2) (lF h3) (lT h4) (lT hm) (modesX u) zm cm _ (fun k _ => says_ret _ _ (by simp [ops]))
      · unfold allB
        rw [if_neg hm]
        exact one_0u u m v e op (lT a0) (lF h1) (lF h2) (lF h3) (lT h4) (lF hm) _ (says_ret _ _ (by simp [ops]))
    rw [if_neg h4]
    by_cases hm : m = ⟨#[78]⟩
    · unfold allB
      rw [if_pos hm]
      exact all_0x u m v e op (lT a0) (lF h1) (lF h2) (lF h3) (lF h4) (lT hm) (modesX u) zm cm _ (fun k _ => says_ret _ _ ho)
    · unfold allB
      rw [if_neg hm]
      exact one_0x u m v e op (lT a0) (lF h1) (lF h2) (lF h3) (lF h4) (lF hm) _ (says_ret _ _ ho)
  · by_cases a1 : u = ⟨#[75, 49]⟩
    · have hk : isK u = true := by unfold isK; rw [decide_eq_true a1, Bool.or_true]
      unfold mayB
      rw [if_pos hk]
      by_cases h1 : op = ⟨#[101, 110, 99, 114, 121, 112, 116]⟩
      · rw [if_pos (Or.inl h1)]
        exact not_1e u m v e op (lF a0) (lT a1) (lT h1)
      by_cases h2 : op = ⟨#[100, 101, 99, 114, 121, 112, 116]⟩
      · rw [if_pos (Or.inr h2)]
        exact not_1d u m v e op (lF a0) (lT a1) (lF h1) (lT h2)
      rw [if_neg (fun h => h.elim h1 h2)]
      by_cases h3 : op = ⟨#[119, 114, 97, 112]⟩
      · rw [if_pos h3]
        by_cases hm : m = ⟨#[78]⟩
        · unfold allB
          rw [if_pos hm]
          exact all_1w u m v e op (lF a0) (lT a1) (lF h1) (lF h2) (lT h3) (lT hm) (modesX u) zm cm _ (fun k _ => says_ret _ _ (by simp [ops]))
        · unfold allB
          rw [if_neg hm]
          exact one_1w u m v e op (lF a0) (lT a1) (lF h1) (lF h2) (lT h3) (lF hm) _ (says_ret _ _ (by simp [ops]))
      rw [if_neg h3]
      by_cases h4 : op = ⟨#[117, 110, 119, 114, 97, 112]⟩
      · rw [if_pos h4]
        by_cases hm : m = ⟨#[78]⟩
        · unfold allB
          rw [if_pos hm]
          exact all_1u u m v e op (lF a0) (lT a1) (lF h1) (lF h2) (lF h3) (lT h4) (lT hm) (modesX u) zm cm _ (fun k _ => says_ret _ _ (by simp [ops]))
        · unfold allB
          rw [if_neg hm]
          exact one_1u u m v e op (lF a0) (lT a1) (lF h1) (lF h2) (lF h3) (lT h4) (lF hm) _ (says_ret _ _ (by simp [ops]))
      rw [if_neg h4]
      by_cases hm : m = ⟨#[78]⟩
      · unfold allB
        rw [if_pos hm]
        exact all_1x u m v e op (lF a0) (lT a1) (lF h1) (lF h2) (lF h3) (lF h4) (lT hm) (modesX u) zm cm _ (fun k _ => says_ret _ _ ho)
      · unfold allB
        rw [if_neg hm]
        exact one_1x u m v e op (lF a0) (lT a1) (lF h1) (lF h2) (lF h3) (lF h4) (lF hm) _ (says_ret _ _ ho)
    · have hk : isK u = false := by unfold isK; rw [decide_eq_false a0, decide_eq_false a1]; rfl
      unfold mayB
      rw [hk, if_neg (by decide)]
      by_cases hm : m = ⟨#[78]⟩
      · unfold allB
        rw [if_pos hm]
        exact all_n u m v e op (lF a0) (lF a1) (lT hm) (modesX u) zm cm _ (fun k _ => says_ret _ _ ho)
      · unfold allB
        rw [if_neg hm]
        exact one_n u m v e op (lF a0) (lF a1) (lF hm) _ (says_ret _ _ ho)
end Us
end Go.Proofs.YtddlaafpianjbaaDoor
