/- Package sched: the keys of rounds; plain mathematics. -/
import Derived.Test.YtoblmddnefmpoaaSched2
namespace Go.Proofs.Ytoblmddnefmpoaa
open Go.RowKit
namespace Sched
open Rnd

theorem cat_cons (s : ByteArray) (ss : List ByteArray) : Oct.cat (s :: ss) = s.data.toList ++ Oct.cat ss := rfl
theorem cat_len4 (ss : List ByteArray) (h : ∀ x ∈ ss, x.size = 4) : (Oct.cat ss).length = 4 * ss.length := by
  induction ss with
  | nil => rfl
  | cons s ss ih =>
    rw [cat_cons, List.length_append, ih (fun x hx => h x (by simp [hx])), List.length_cons]
    have h1 : s.data.toList.length = 4 := h s (by simp)
    omega
theorem cat_drop4 (ss : List ByteArray) (h : ∀ x ∈ ss, x.size = 4) (k : Nat) : (Oct.cat ss).drop (4 * k) = Oct.cat (ss.drop k) := by
  induction k generalizing ss with
  | zero => simp
  | succ k ih =>
    cases ss with
    | nil => simp [Oct.cat]
    | cons s ss =>
      have h1 : s.data.toList.length = 4 := h s (by simp)
      rw [cat_cons, List.drop_succ_cons, ← ih ss (fun x hx => h x (by simp [hx])), show 4 * (k + 1) = s.data.toList.length + 4 * k from by omega, List.drop_append]
      simp
theorem wordsL_size (l : List UInt8) (n : Nat) (hn : 1 ≤ n) (hl : l.length = 4 * n) : ∀ x ∈ wordsL l n, x.size = 4 := by
  unfold wordsL
  exact grow_size _ n _ hn (by unfold first; rw [Oct.pcs_len]) (first_size l n hl)
def keysL (l : List UInt8) (n : Nat) : List ByteArray := Oct.pcs (Oct.cat (wordsL l n)) 16 (n + 7)
theorem keysL_len (l : List UInt8) (n : Nat) : (keysL l n).length = n + 7 := by unfold keysL; rw [Oct.pcs_len]
theorem catw_len (l : List UInt8) (n : Nat) (hn : 1 ≤ n) (hl : l.length = 4 * n) : (Oct.cat (wordsL l n)).length = 16 * (n + 7) := by
  rw [cat_len4 _ (wordsL_size l n hn hl), wordsL_len]; omega

/-- a call that answers a slice of strings and an error -/
def MakE (f : Nat) (args : Array Value) (ss : List ByteArray) (e : Int) : Prop := ∀ w, Calls Try.prog f args w fun x w' => ∃ v, x = .returned (.tuple #[v, .int .i64 e]) ∧ StrsR w' v ss ∧ Below w.heap.size w w'
set_option maxHeartbeats 2000000 in
theorem keys_yes (key : ByteArray) (n : Nat) (hn : n = 4 ∨ n = 6 ∨ n = 8) (hk : key.size = 4 * n) : MakE 42 #[.string key] (keysL key.data.toList n) 0 := by
  intro w
  have hl : key.data.toList.length = 4 * n := hk
  have c1 : Ret 44 #[.int .i64 (key.size : Int)] (.int .i64 ((n : Int) + 6)) := by
    rw [hk]; exact rounds_yes (4 * n) (by omega) _ (by omega)
  have c2 := words_mak key n hn hk
  have hcl := catw_len key.data.toList n (by omega) hl
  obtain ⟨ws, hws⟩ : ∃ ws, ws = wordsL key.data.toList n := ⟨_, rfl⟩
  have hwl : ws.length = 4 * n + 28 := by rw [hws, wordsL_len]
  have hkl : keysL key.data.toList n = Oct.pcs (Oct.cat ws) 16 (n + 7) := by rw [hws]; rfl
  rw [← hws] at c2 hcl
  rw [hkl]
  obtain ⟨J, hJ⟩ : ∃ J, J = bs (Oct.cat ws) := ⟨_, rfl⟩
  have hJs : J.size = 16 * (n + 7) := by rw [hJ, size_bs, hcl]
  have c4 : MakS 68 #[.string J, .int .i64 16] (Oct.pcs (Oct.cat ws) 16 (n + 7)) := Oct.pieces_mak J 16 (by decide) (by decide) (by omega) _ (by
    rw [hJs, show (16 * (n + 7) + 16 - 1) / 16 = n + 7 from by omega, hJ, list_bs])
  have c3 : ∀ W x, StrsR W x ws → Calls Try.prog 51 #[x] W fun e w' => e = .returned (.string J) ∧ Below W.heap.size W w' := fun W x hx => by
    rw [hJ]; exact Oct.join_strs W x ws hx (by omega) (by omega)
  have hb0 : (((n : Int) + 6) == 0) = false := by rw [beq_eq_false_iff_ne]; omega
  have H0 := Lib.hid (Since.refl w)
  have C3 := Lib.hid c3
  clear c3 hwl hkl hJ hJs hcl hws hl hk hn
  obtain ⟨ks, hks⟩ : ∃ ks, ks = Oct.pcs (Oct.cat ws) 16 (n + 7) := ⟨_, rfl⟩
  rw [← hks] at c4 ⊢
  clear hks
  go_enter Try.func42, Try.ntmps42
  go_wp2_with fail
  refine (c1).calls ?_
  go_wp2_with fail
  refine c2.calls H0.out ?_
  intro v w1 ho hb h1
  have hr := Strs.read ho
  have H1 := Lib.hid h1
  clear h1
  have Hr := Lib.hid hr
  clear hr
  clear ho hb
  go_wp2_with fail
  refine (C3.out _ _ Hr.out).mono ?_
  rintro e w2 ⟨rfl, h2⟩
  have H2 := Lib.hid (Since.step H1.out h2)
  clear h2
  go_wp2_with fail
  refine c4.calls H2.out ?_
  intro v3 w3 ho3 hb3 h3
  have hr3 := Strs.read ho3
  have H3 := Lib.hid h3
  clear h3
  have Hr3 := Lib.hid hr3
  clear hr3
  clear ho3 hb3
  go_wp2_with fail
  go_ret2
  exact ⟨_, rfl, Hr3.out, H3.out⟩
theorem keys_no (key : ByteArray) (hm : key.size ≤ 1000000) (h : key.size ≠ 16 ∧ key.size ≠ 24 ∧ key.size ≠ 32) : Ret 42 #[.string key] (.tuple #[.slice none 0 0, .int .i64 2]) := by
  intro w
  have c1 := rounds_no (key.size : Int) (by omega)
  clear h
  go_enter Try.func42, Try.ntmps42
  go_wp2_with fail
  refine (c1).calls ?_
  go_wp2_with fail
  go_ret2
  exact ⟨rfl, rfl⟩
theorem words_no (key : ByteArray) (hm : key.size ≤ 1000000) (h : key.size ≠ 16 ∧ key.size ≠ 24 ∧ key.size ≠ 32) : Ret 49 #[.string key] (.slice none 0 0) := by
  intro w
  have c1 := rounds_no (key.size : Int) (by omega)
  clear h
  go_enter Try.func49, Try.ntmps49
  go_wp2_with fail
  refine (c1).calls ?_
  go_wp2_with fail
  go_ret
  exact ⟨rfl, rfl⟩

/-- all keys joined are all words joined, and begin with the key -/
theorem cat_pcs (l : List UInt8) (n m : Nat) : Oct.cat (Oct.pcs l n m) = l.take (n * m) := by
  induction m with
  | zero => simp [Oct.pcs, Oct.cat]
  | succ m ih =>
    rw [Oct.pcs_succ, Oct.cat_snoc, ih, Nat.mul_succ, List.take_add]
    rfl
theorem cat_keys (l : List UInt8) (n : Nat) (hn : 1 ≤ n) (hl : l.length = 4 * n) : Oct.cat (keysL l n) = Oct.cat (wordsL l n) := by
  unfold keysL
  rw [cat_pcs, List.take_of_length_le (by rw [catw_len l n hn hl]; exact Nat.le_refl _)]
theorem grow_pre (ss : List ByteArray) (n k : Nat) : ∃ t, grow ss n k = ss ++ t := by
  induction k with
  | zero => exact ⟨[], by simp [grow]⟩
  | succ k ih =>
    obtain ⟨t, ht⟩ := ih
    exact ⟨t ++ [word (grow ss n k) (n + k) n], by simp only [grow]; rw [ht, List.append_assoc]⟩
theorem cat_app (a b : List ByteArray) : Oct.cat (a ++ b) = Oct.cat a ++ Oct.cat b := by simp [Oct.cat]
theorem cat_begins (l : List UInt8) (n : Nat) (hl : l.length = 4 * n) : (Oct.cat (wordsL l n)).take l.length = l := by
  obtain ⟨t, ht⟩ := grow_pre (first l n) n (3 * n + 28)
  unfold wordsL
  rw [ht, cat_app]
  have e : Oct.cat (first l n) = l := by unfold first; rw [cat_pcs, List.take_of_length_le (by omega)]
  rw [e, List.take_left]
theorem keys_inj (a b : List UInt8) (n m : Nat) (hn : 1 ≤ n) (hm : 1 ≤ m) (ha : a.length = 4 * n) (hb : b.length = 4 * m) (h : keysL a n = keysL b m) : a = b := by
  have h1 := congrArg List.length h
  rw [keysL_len, keysL_len] at h1
  have h2 := congrArg Oct.cat h
  rw [cat_keys a n hn ha, cat_keys b m hm hb] at h2
  rw [← cat_begins a n ha, ← cat_begins b m hb, h2, ha, hb, show n = m from by omega]
end Sched
end Go.Proofs.Ytoblmddnefmpoaa
