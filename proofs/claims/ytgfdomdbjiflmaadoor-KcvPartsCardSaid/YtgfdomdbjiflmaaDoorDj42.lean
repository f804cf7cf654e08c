/- Joined texts. -/
-- PACK: YtgfdomdbjiflmaaDoorSched2 YtgfdomdbjiflmaaDoorSched3 YtgfdomdbjiflmaaDoorAesM
import Derived.Test.YtgfdomdbjiflmaaDoorDj40
import Derived.Deep.RegionLaw
import Derived.IntWalk
import Derived.Test.YtgfdomdbjiflmaaDoorDj35

/- Package sched: all words, and the keys of rounds. -/
namespace Go.Proofs.YtgfdomdbjiflmaaDoor
open Go.RowKit
namespace Sched
open Rnd

theorem Strs.form {w : World} {b : Nat} {v : Value} {ss : List ByteArray} (h : Strs w b v ss) (hn : 0 < ss.length) : ∃ g cap, v = .slice (some ⟨g, 0, none⟩) ss.length cap := by
  obtain ⟨_, h2⟩ := h
  rcases h2 with ⟨_, h3⟩ | ⟨g, cap, _, h3, _⟩
  · omega
  · exact ⟨g, cap, h3⟩
theorem pkown {w0 W : World} {v : Value} {ss : List ByteArray} {j : Nat} (h : Hid (PK w0 v ss W)) (hj : ss.length = j) : W.ownsRow w0.heap.size 9 1 v j (ss.map Value.string) := by
  subst hj; exact h.out.own

theorem pksince {w0 W : World} {v : Value} {ss : List ByteArray} (h : Hid (PK w0 v ss W)) : Since w0 W := h.out.since
set_option maxRecDepth 100000 in
set_option maxHeartbeats 4000000 in
theorem words_mak (key : ByteArray) (n : Nat) (hn : n = 4 ∨ n = 6 ∨ n = 8) (hk : key.size = 4 * n) : MakS 108 #[.string key] (wordsL key.data.toList n) := by
  intro w
  have hl : key.data.toList.length = 4 * n := hk
  have c1 : Ret 50 #[.int .i64 (key.size : Int)] (.int .i64 ((n : Int) + 6)) := by
    rw [hk]; exact rounds_yes (4 * n) (by omega) _ (by omega)
  have c2 : MakS 107 #[.string key, .int .i64 4] (first key.data.toList n) := Oct.pieces_mak key 4 (by decide) (by decide) (by omega) _ (by
    unfold first; rw [hk, show (4 * n + 4 - 1) / 4 = n from by omega])
  obtain ⟨fs, hfs⟩ : ∃ fs, fs = first key.data.toList n := ⟨_, rfl⟩
  have hfl : fs.length = n := by rw [hfs]; unfold first; rw [Oct.pcs_len]
  have hf4 : ∀ x ∈ fs, x.size = 4 := by rw [hfs]; exact first_size _ n hl
  have hwl : wordsL key.data.toList n = grow fs n (3 * n + 28) := by rw [hfs]; rfl
  rw [← hfs] at c2
  rw [hwl]
  have hn1 : 4 ≤ n ∧ n ≤ 8 := by omega
  obtain ⟨hn4, hn8⟩ := hn1
  have hb0 : (((n : Int) + 6) == 0) = false := by rw [beq_eq_false_iff_ne]; omega
  have HN := Lib.hid hn
  clear hwl hfs hl hk hn
  have Hfl := Lib.hid hfl
  clear hfl
  have Hf4 := Lib.hid hf4
  clear hf4
  go_enter Tryd.func108, Tryd.ntmps108
  go_wp2_with fail
  refine (c1).calls ?_
  go_wp2_with fail
  refine (c2 w).mono ?_
  rintro e w1 ⟨v, rfl, ho, hb⟩
  have HP0 : Hid (PK w v fs w1) := Lib.hid ⟨hb, ho⟩
  obtain ⟨g, cap, hv⟩ := Strs.form ho (by rw [Hfl.out]; omega)
  rw [Hfl.out] at hv
  subst hv
  clear ho hb
  go_wp2_with fail
  go_loopw [4, 6] (fun v i wr => ∃ k j : Nat, k ≤ 3 * n + 28 ∧ j ≤ 60 ∧ Hid (j = n + k) ∧ i = .int .i64 (j : Int) ∧ Hid (PK w v (grow fs n k) wr)) (fun _ i _ => 60 - (intOf i).toNat)
  case atStart => exact ⟨0, n, by omega, by omega, Lib.hid rfl, rfl, HP0⟩
  case round =>
    clear HP0
    obtain ⟨k, j, hk, hj60, HJ, rfl, HP⟩ := hrel
    have hjk := HJ.out
    by_cases hlt : k < 3 * n + 28
    · obtain ⟨ss, hss⟩ : ∃ ss, ss = grow fs n k := ⟨_, rfl⟩
      have hsl : ss.length = j := by rw [hss, grow_len, Hfl.out]; omega
      have hs4 : ∀ x ∈ ss, x.size = 4 := by rw [hss]; exact grow_size fs n k (by omega) Hfl.out Hf4.out
      rw [← hss] at HP
      obtain ⟨g2, cap2, hv⟩ := Strs.form HP.out.own (by omega)
      rw [hsl] at hv
      subst hv
      obtain ⟨m, hm⟩ : ∃ m, m = j - 1 := ⟨_, rfl⟩
      obtain ⟨A, hA⟩ : ∃ A, A = ss.getD k ⟨#[]⟩ := ⟨_, rfl⟩
      obtain ⟨B, hB⟩ : ∃ B, B = ss.getD m ⟨#[]⟩ := ⟨_, rfl⟩
      have hA4 : A.size = 4 := hs4 A (by rw [hA, List.getD, List.getElem?_eq_getElem (show k < ss.length by omega)]; exact List.getElem_mem _)
      have hB4 : B.size = 4 := hs4 B (by rw [hB, List.getD, List.getElem?_eq_getElem (show m < ss.length by omega)]; exact List.getElem_mem _)
      have a1 : ∀ W, Hid (PK w (.slice (some ⟨g2, 0, none⟩) j cap2) ss W) → W.cell? ⟨g2, k, none⟩ = some (.string A) := fun W h => by rw [hA]; exact pkcell h k (by omega)
      have a2 : ∀ W, Hid (PK w (.slice (some ⟨g2, 0, none⟩) j cap2) ss W) → W.cell? ⟨g2, m, none⟩ = some (.string B) := fun W h => by rw [hB]; exact pkcell h m (by omega)
      obtain ⟨T, hT⟩ : ∃ T, T = trans B j n := ⟨_, rfl⟩
      have hT4 : T.size = 4 := by rw [hT]; exact trans_size _ _ _ hB4
      have c3 := tr_mak B hB4 j n HN.out (by omega) hj60 T hT
      obtain ⟨Y, hY⟩ : ∃ Y, Y = xorS A T := ⟨_, rfl⟩
      have c4 := xor_m A T (by omega) (by omega) Y hY
      have hgr : grow fs n (k + 1) = ss ++ [Y] := by
        rw [hY, hT, hA, hB, hss]
        show _ ++ [word _ _ _] = _
        unfold word
        rw [show n + k - n = k from by omega, hm, hjk]
      have e1 : IntKind.i64.wrap ((j : Int) - (n : Int)) = (k : Int) := by rw [IntWalk.i64_in _ (by omega)]; omega
      have e2 : IntKind.i64.wrap ((j : Int) - 1) = (m : Int) := by rw [IntWalk.i64_in _ (by omega)]; omega
      have k0 := a1 wr HP
      have m0 := a2 wr HP
      have A1 := Lib.hid a1
      have A2 := Lib.hid a2
      have i1 : (0 : Int) ≤ (k : Int) := by omega
      have i2 : (k : Int) < (j : Int) := by omega
      have i3 : (0 : Int) ≤ (m : Int) := by omega
      have i4 : (m : Int) < (j : Int) := by omega
      have i5 : (j : Int) < 4 * ((n : Int) + 6) + 4 := by omega
      clear a1 a2 hY hT hA hB hss hs4 hm hjk
      have Hgr := Lib.hid hgr
      clear hgr
      have Hsl := Lib.hid hsl
      clear hsl
      go_wp2_with fail
      go_region_law (first
        | (refine step_one elemS rfl _ _ (by rfl) w _ (.slice (some ⟨g2, 0, none⟩) j cap2) j (ss.map Value.string) (by rfl) (pkown (by first | assumption | exact pkdrew (by assumption) | exact pkalloc _ (by assumption) | exact pkdrew (pkalloc _ (by assumption)) | exact pkalloc _ (pkdrew (by assumption))) Hsl.out) (pksince (v := .slice (some ⟨g2, 0, none⟩) j cap2) (ss := ss) (by first | assumption | exact pkdrew (by assumption) | exact pkalloc _ (by assumption) | exact pkdrew (pkalloc _ (by assumption)) | exact pkalloc _ (pkdrew (by assumption)))) _ (.string Y) (by rfl) (by simp [go_sem]) rfl (by omega) (by decide) ?_; intro v7 w7 hown7 hS7)
        | (go_simp; go_at_call 126; refine (c3 _).mono ?_; rintro e w5 ⟨rfl, h5⟩; have hp5 := pkstep h5 (by first | assumption | exact pkdrew (by assumption) | exact pkalloc _ (by assumption) | exact pkdrew (pkalloc _ (by assumption)) | exact pkalloc _ (pkdrew (by assumption))); have k5 := A1.out _ hp5; clear h5)
        | (go_simp; go_at_call 74; refine (c4 _).mono ?_; rintro e w6 ⟨rfl, h6⟩; have hp6 := pkstep h6 (by first | assumption | exact pkdrew (by assumption) | exact pkalloc _ (by assumption) | exact pkdrew (pkalloc _ (by assumption)) | exact pkalloc _ (pkdrew (by assumption))); clear h6))
      all_goals
        go_wp2_with fail
        go_roundw
        case rel => exact ⟨k + 1, j + 1, by omega, by have := HJ.out; omega, Lib.hid (by have := HJ.out; omega), by go_num, Lib.hid ⟨by first | exact hS7 | exact Since.drew hS7, by rw [Hgr.out]; unfold Strs; rw [List.length_append, List.map_append, Hsl.out]; exact hown7⟩⟩
        case measure => simp [intOf]; omega
    · obtain rfl : k = 3 * n + 28 := by omega
      have i5 : ¬ (j : Int) < 4 * ((n : Int) + 6) + 4 := by omega
      clear hjk
      go_wp2_with fail
      go_ret
      exact ⟨_, rfl, HP.out.own, HP.out.since⟩
end Sched
end Go.Proofs.YtgfdomdbjiflmaaDoor

/- Package sched: the keys of rounds; plain mathematics. -/
namespace Go.Proofs.YtgfdomdbjiflmaaDoor
open Go.RowKit
namespace Sched
open Rnd

theorem cat_cons (s : ByteArray) (ss : List ByteArray) : Oct.cat (s :: ss) = s.data.toList ++ Oct.cat ss := rfl
theorem cat_len4 (ss : List ByteArray) (h : ∀ x ∈ ss, x.size = 4) : (Oct.cat ss).length = 4 * ss.length := by
  induction ss with
  | nil => rfl
  | cons s ss ih =>
    rw [cat_cons, List.length_append, ih (fun x hx => h x (by simp [hx])), List.length_cons]
    have h1 : s.data.toList.length = 4 := h s (by simp)
    omega
theorem cat_drop4 (ss : List ByteArray) (h : ∀ x ∈ ss, x.size = 4) (k : Nat) : (Oct.cat ss).drop (4 * k) = Oct.cat (ss.drop k) := by
  induction k generalizing ss with
  | zero => simp
  | succ k ih =>
    cases ss with
    | nil => simp [Oct.cat]
    | cons s ss =>
      have h1 : s.data.toList.length = 4 := h s (by simp)
      rw [cat_cons, List.drop_succ_cons, ← ih ss (fun x hx => h x (by simp [hx])), show 4 * (k + 1) = s.data.toList.length + 4 * k from by omega, List.drop_append]
      simp
theorem wordsL_size (l : List UInt8) (n : Nat) (hn : 1 ≤ n) (hl : l.length = 4 * n) : ∀ x ∈ wordsL l n, x.size = 4 := by
  unfold wordsL
  exact grow_size _ n _ hn (by unfold first; rw [Oct.pcs_len]) (first_size l n hl)
def keysL (l : List UInt8) (n : Nat) : List ByteArray := Oct.pcs (Oct.cat (wordsL l n)) 16 (n + 7)
theorem keysL_len (l : List UInt8) (n : Nat) : (keysL l n).length = n + 7 := by unfold keysL; rw [Oct.pcs_len]
theorem catw_len (l : List UInt8) (n : Nat) (hn : 1 ≤ n) (hl : l.length = 4 * n) : (Oct.cat (wordsL l n)).length = 16 * (n + 7) := by
  rw [cat_len4 _ (wordsL_size l n hn hl), wordsL_len]; omega

/-- a call that answers a slice of strings and an error -/
def MakE (f : Nat) (args : Array Value) (ss : List ByteArray) (e : Int) : Prop := ∀ w, Calls Tryd.prog f args w fun x w' => ∃ v, x = .returned (.tuple #[v, .int .i64 e]) ∧ StrsR w' v ss ∧ Below w.heap.size w w'
set_option maxRecDepth 100000 in
set_option maxHeartbeats 2000000 in
theorem keys_yes (key : ByteArray) (n : Nat) (hn : n = 4 ∨ n = 6 ∨ n = 8) (hk : key.size = 4 * n) : MakE 91 #[.string key] (keysL key.data.toList n) 0 := by
  intro w
  have hl : key.data.toList.length = 4 * n := hk
  have c1 : Ret 50 #[.int .i64 (key.size : Int)] (.int .i64 ((n : Int) + 6)) := by
    rw [hk]; exact rounds_yes (4 * n) (by omega) _ (by omega)
  have c2 := words_mak key n hn hk
  have hcl := catw_len key.data.toList n (by omega) hl
  obtain ⟨ws, hws⟩ : ∃ ws, ws = wordsL key.data.toList n := ⟨_, rfl⟩
  have hwl : ws.length = 4 * n + 28 := by rw [hws, wordsL_len]
  have hkl : keysL key.data.toList n = Oct.pcs (Oct.cat ws) 16 (n + 7) := by rw [hws]; rfl
  rw [← hws] at c2 hcl
  rw [hkl]
  obtain ⟨J, hJ⟩ : ∃ J, J = bs (Oct.cat ws) := ⟨_, rfl⟩
  have hJs : J.size = 16 * (n + 7) := by rw [hJ, size_bs, hcl]
  have c4 : MakS 107 #[.string J, .int .i64 16] (Oct.pcs (Oct.cat ws) 16 (n + 7)) := Oct.pieces_mak J 16 (by decide) (by decide) (by omega) _ (by
    rw [hJs, show (16 * (n + 7) + 16 - 1) / 16 = n + 7 from by omega, hJ, list_bs])
  have c3 : ∀ W x, StrsR W x ws → Calls Tryd.prog 57 #[x] W fun e w' => e = .returned (.string J) ∧ Below W.heap.size W w' := fun W x hx => by
    rw [hJ]; exact Oct.join_strs W x ws hx (by omega) (by omega)
  have hb0 : (((n : Int) + 6) == 0) = false := by rw [beq_eq_false_iff_ne]; omega
  have H0 := Lib.hid (Since.refl w)
  have C3 := Lib.hid c3
  clear c3 hwl hkl hJ hJs hcl hws hl hk hn
  obtain ⟨ks, hks⟩ : ∃ ks, ks = Oct.pcs (Oct.cat ws) 16 (n + 7) := ⟨_, rfl⟩
  rw [← hks] at c4 ⊢
  clear hks
  go_enter Tryd.func91, Tryd.ntmps91
  go_wp2_with fail
  refine (c1).calls ?_
  go_wp2_with fail
  refine c2.calls H0.out ?_
  intro v w1 ho hb h1
  have hr := Strs.read ho
  have H1 := Lib.hid h1
  clear h1
  have Hr := Lib.hid hr
  clear hr
  clear ho hb
  go_wp2_with fail
  refine (C3.out _ _ Hr.out).mono ?_
  rintro e w2 ⟨rfl, h2⟩
  have H2 := Lib.hid (Since.step H1.out h2)
  clear h2
  go_wp2_with fail
  refine c4.calls H2.out ?_
  intro v3 w3 ho3 hb3 h3
  have hr3 := Strs.read ho3
  have H3 := Lib.hid h3
  clear h3
  have Hr3 := Lib.hid hr3
  clear hr3
  clear ho3 hb3
  go_wp2_with fail
  go_ret2
  exact ⟨_, rfl, Hr3.out, H3.out⟩
set_option maxRecDepth 100000 in
theorem keys_no (key : ByteArray) (_hm : key.size ≤ 1000000) (h : key.size ≠ 16 ∧ key.size ≠ 24 ∧ key.size ≠ 32) : Ret 91 #[.string key] (.tuple #[.slice none 0 0, .int .i64 2]) := by
  intro w
  have c1 := rounds_no (key.size : Int) (by omega)
  clear h
  go_enter Tryd.func91, Tryd.ntmps91
  go_wp2_with fail
  refine (c1).calls ?_
  go_wp2_with fail
  go_ret2
  exact ⟨rfl, rfl⟩
set_option maxRecDepth 100000 in
theorem words_no (key : ByteArray) (_hm : key.size ≤ 1000000) (h : key.size ≠ 16 ∧ key.size ≠ 24 ∧ key.size ≠ 32) : Ret 108 #[.string key] (.slice none 0 0) := by
  intro w
  have c1 := rounds_no (key.size : Int) (by omega)
  clear h
  go_enter Tryd.func108, Tryd.ntmps108
  go_wp2_with fail
  refine (c1).calls ?_
  go_wp2_with fail
  go_ret
  exact ⟨rfl, rfl⟩

/-- all keys joined are all words joined, and begin with the key -/
theorem cat_pcs (l : List UInt8) (n m : Nat) : Oct.cat (Oct.pcs l n m) = l.take (n * m) := by
  induction m with
  | zero => simp [Oct.pcs, Oct.cat]
  | succ m ih =>
    rw [Oct.pcs_succ, Oct.cat_snoc, ih, Nat.mul_succ, List.take_add]
    rfl
theorem cat_keys (l : List UInt8) (n : Nat) (hn : 1 ≤ n) (hl : l.length = 4 * n) : Oct.cat (keysL l n) = Oct.cat (wordsL l n) := by
  unfold keysL
  rw [cat_pcs, List.take_of_length_le (by rw [catw_len l n hn hl]; exact Nat.le_refl _)]
theorem grow_pre (ss : List ByteArray) (n k : Nat) : ∃ t, grow ss n k = ss ++ t := by
  induction k with
  | zero => exact ⟨[], by simp [grow]⟩
  | succ k ih =>
    obtain ⟨t, ht⟩ := ih
    exact ⟨t ++ [word (grow ss n k) (n + k) n], by simp only [grow]; rw [ht, List.append_assoc]⟩
theorem cat_app (a b : List ByteArray) : Oct.cat (a ++ b) = Oct.cat a ++ Oct.cat b := by simp [Oct.cat]
theorem cat_begins (l : List UInt8) (n : Nat) (hl : l.length = 4 * n) : (Oct.cat (wordsL l n)).take l.length = l := by
  obtain ⟨t, ht⟩ := grow_pre (first l n) n (3 * n + 28)
  unfold wordsL
  rw [ht, cat_app]
  have e : Oct.cat (first l n) = l := by unfold first; rw [cat_pcs, List.take_of_length_le (by omega)]
  rw [e, List.take_left]
theorem keys_inj (a b : List UInt8) (n m : Nat) (hn : 1 ≤ n) (hm : 1 ≤ m) (ha : a.length = 4 * n) (hb : b.length = 4 * m) (h : keysL a n = keysL b m) : a = b := by
  have h1 := congrArg List.length h
  rw [keysL_len, keysL_len] at h1
  have h2 := congrArg Oct.cat h
  rw [cat_keys a n hn ha, cat_keys b m hm hb] at h2
  rw [← cat_begins a n ha, ← cat_begins b m hb, h2, ha, hb, show n = m from by omega]
end Sched
end Go.Proofs.YtgfdomdbjiflmaaDoor

/- Package aes: a block through all rounds; plain mathematics. -/
namespace Go.Proofs.YtgfdomdbjiflmaaDoor
namespace Aes
open Rnd

/-- the key of round i -/
def rk (ks : List ByteArray) (i : Nat) : List UInt8 := (ks.getD i ⟨#[]⟩).data.toList
/-- a block behind i rounds of n -/
def fwdL (ks : List ByteArray) (n : Nat) (b : List UInt8) : Nat → List UInt8
  | 0 => xorL b (rk ks 0)
  | i + 1 => doL (decide (i + 1 = n)) (fwdL ks n b i) (rk ks (i + 1))
/-- a block when i rounds of n are undone -/
def bwdL (ks : List ByteArray) (n : Nat) (b : List UInt8) : Nat → List UInt8
  | 0 => b
  | i + 1 => undoL (decide (n - i = n)) (bwdL ks n b i) (rk ks (n - i))
def encL (ks : List ByteArray) (n : Nat) (b : List UInt8) : List UInt8 := fwdL ks n b n
def decL (ks : List ByteArray) (n : Nat) (b : List UInt8) : List UInt8 := xorL (bwdL ks n b n) (rk ks 0)
theorem fwdL_len (ks : List ByteArray) (n : Nat) (b : List UInt8) (i : Nat) : (fwdL ks n b i).length = 16 := by
  cases i with
  | zero => exact xorL_len _ _
  | succ i => exact doL_len _ _ _
theorem bwdL_len (ks : List ByteArray) (n : Nat) (b : List UInt8) (hb : b.length = 16) (i : Nat) : (bwdL ks n b i).length = 16 := by
  cases i with
  | zero => exact hb
  | succ i => exact undoL_len _ _ _
theorem encL_len (ks : List ByteArray) (n : Nat) (b : List UInt8) : (encL ks n b).length = 16 := fwdL_len _ _ _ _
theorem decL_len (ks : List ByteArray) (n : Nat) (b : List UInt8) : (decL ks n b).length = 16 := xorL_len _ _
theorem bwd_fwd (ks : List ByteArray) (n : Nat) (b : List UInt8) (i : Nat) (hi : i ≤ n) : bwdL ks n (fwdL ks n b n) i = fwdL ks n b (n - i) := by
  induction i with
  | zero => rfl
  | succ i ih =>
    obtain ⟨m, hm⟩ : ∃ m, n - i = m + 1 := ⟨n - i - 1, by omega⟩
    have h1 := ih (by omega)
    rw [bwdL, h1, hm, fwdL, undo_do _ _ _ (fwdL_len _ _ _ _), show n - (i + 1) = m from by omega]
theorem dec_enc (ks : List ByteArray) (n : Nat) (b : List UInt8) (hb : b.length = 16) : decL ks n (encL ks n b) = b := by
  unfold decL encL
  rw [bwd_fwd _ _ _ _ (Nat.le_refl _), Nat.sub_self, fwdL, xor_xor _ _ hb]
theorem fwd_bwd (ks : List ByteArray) (n : Nat) (b : List UInt8) (hb : b.length = 16) (i : Nat) (hi : i ≤ n) : fwdL ks n (decL ks n b) i = bwdL ks n b (n - i) := by
  induction i with
  | zero => rw [fwdL, decL, xor_xor _ _ (bwdL_len _ _ _ hb _), Nat.sub_zero]
  | succ i ih =>
    obtain ⟨m, hm⟩ : ∃ m, n - i = m + 1 := ⟨n - i - 1, by omega⟩
    rw [fwdL, ih (by omega), hm, bwdL, show n - m = i + 1 from by omega, do_undo _ _ _ (bwdL_len _ _ _ hb _), show n - (i + 1) = m from by omega]
theorem enc_dec (ks : List ByteArray) (n : Nat) (b : List UInt8) (hb : b.length = 16) : encL ks n (decL ks n b) = b := by
  unfold encL
  rw [fwd_bwd _ _ _ hb _ (Nat.le_refl _), Nat.sub_self, bwdL]
theorem enc_inj (ks : List ByteArray) (n : Nat) (a b : List UInt8) (ha : a.length = 16) (hb : b.length = 16) (h : encL ks n a = encL ks n b) : a = b := by
  rw [← dec_enc ks n a ha, h, dec_enc ks n b hb]
/-- a block of bytes under a key of n words -/
def encK (key : ByteArray) (b : ByteArray) : ByteArray := bs (encL (Sched.keysL key.data.toList (key.size / 4)) (key.size / 4 + 6) b.data.toList)
def decK (key : ByteArray) (b : ByteArray) : ByteArray := bs (decL (Sched.keysL key.data.toList (key.size / 4)) (key.size / 4 + 6) b.data.toList)
def keyOk (key : ByteArray) : Prop := key.size = 16 ∨ key.size = 24 ∨ key.size = 32
theorem encK_size (key b : ByteArray) : (encK key b).size = 16 := by unfold encK; rw [size_bs, encL_len]
theorem decK_size (key b : ByteArray) : (decK key b).size = 16 := by unfold decK; rw [size_bs, decL_len]
theorem decK_encK (key b : ByteArray) (hb : b.size = 16) : decK key (encK key b) = b := by
  apply ba_ext
  unfold decK encK
  rw [list_bs, list_bs, dec_enc _ _ _ hb]
theorem encK_decK (key b : ByteArray) (hb : b.size = 16) : encK key (decK key b) = b := by
  apply ba_ext
  unfold decK encK
  rw [list_bs, list_bs, enc_dec _ _ _ hb]
theorem encK_inj (key a b : ByteArray) (ha : a.size = 16) (hb : b.size = 16) (h : encK key a = encK key b) : a = b := by
  rw [← decK_encK key a ha, h, decK_encK key b hb]

/-- values put into an array one by one -/
theorem fold_put (vs : List Value) : ∀ (cs : Array Value) (off k : Nat), (∀ n, n = vs.length → off + k + n ≤ cs.size) →
    ((vs.zipIdx k).foldl (fun cs (c, j) => cs.setIfInBounds (off + j) c) cs).size = cs.size ∧ ∀ i, ((vs.zipIdx k).foldl (fun cs (c, j) => cs.setIfInBounds (off + j) c) cs)[i]? = if off + k ≤ i ∧ i < off + k + vs.length then vs[i - (off + k)]? else cs[i]? := by
  induction vs with
  | nil => intro cs off k _; exact ⟨rfl, fun i => by rw [if_neg (by simp only [List.length_nil]; omega)]; rfl⟩
  | cons v vs ih =>
    intro cs off k h
    have hl := h _ rfl
    rw [List.length_cons] at hl
    obtain ⟨h1, h2⟩ := ih (cs.setIfInBounds (off + k) v) off (k + 1) (fun n hn => by rw [Array.size_setIfInBounds]; omega)
    rw [List.zipIdx_cons, List.foldl_cons]
    refine ⟨by rw [h1, Array.size_setIfInBounds], fun i => ?_⟩
    rw [h2 i]
    by_cases c1 : off + (k + 1) ≤ i ∧ i < off + (k + 1) + vs.length
    · rw [if_pos c1, if_pos (by rw [List.length_cons]; omega), show i - (off + k) = i - (off + (k + 1)) + 1 from by omega, List.getElem?_cons_succ]
    · rw [if_neg c1]
      by_cases c2 : i = off + k
      · subst c2
        rw [if_pos (by rw [List.length_cons]; omega), Nat.sub_self, Array.getElem?_setIfInBounds_self_of_lt (by omega)]; rfl
      · rw [if_neg (by rw [List.length_cons]; omega), Array.getElem?_setIfInBounds_ne (by omega)]
end Aes
end Go.Proofs.YtgfdomdbjiflmaaDoor
