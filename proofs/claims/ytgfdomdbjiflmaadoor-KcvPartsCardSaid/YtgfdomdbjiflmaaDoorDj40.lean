/- Joined texts. -/
-- PACK: YtgfdomdbjiflmaaDoorSched
import Derived.Test.YtgfdomdbjiflmaaDoorDj15
import Derived.Test.YtgfdomdbjiflmaaDoorDj35
import Derived.Test.YtgfdomdbjiflmaaDoorDj19
import Derived.Test.YtgfdomdbjiflmaaDoorDj21
import Derived.Test.YtgfdomdbjiflmaaDoorDj16
import Derived.Test.YtgfdomdbjiflmaaDoorDj12
import Derived.Deep.RegionHeld3

/- Package sched. -/
namespace Go.Proofs.YtgfdomdbjiflmaaDoor
open Go.RowKit
namespace Sched
open Rnd

set_option maxRecDepth 100000 in
theorem rounds_yes (m : Nat) (hm : m = 16 ∨ m = 24 ∨ m = 32) (x : Int) (hx : x = ((m / 4 + 6 : Nat) : Int)) : Ret 50 #[.int .i64 (m : Int)] (.int .i64 x) := by
  intro w
  subst hx
  rcases hm with rfl | rfl | rfl
  all_goals
    go_enter Tryd.func50, Tryd.ntmps50
    go_wp2_with fail
    go_ret
    exact ⟨rfl, rfl⟩
set_option maxRecDepth 100000 in
theorem rounds_no (n : Int) (h : n ≠ 16 ∧ n ≠ 24 ∧ n ≠ 32) : Ret 50 #[.int .i64 n] (.int .i64 0) := by
  intro w
  obtain ⟨h1, h2, h3⟩ := h
  have n1 : (n == 16) = false := beq_eq_false_iff_ne.2 h1
  have n2 : (n == 24) = false := beq_eq_false_iff_ne.2 h2
  have n3 : (n == 32) = false := beq_eq_false_iff_ne.2 h3
  clear h1 h2 h3
  go_enter Tryd.func50, Tryd.ntmps50
  go_wp2_with fail
  go_ret
  exact ⟨rfl, rfl⟩
def conN (i : Int) : Nat := if 1 ≤ i ∧ i ≤ 255 then Gf.pow 2 (i - 1).toNat else 0
theorem conN_lt (i : Int) : conN i < 256 := by unfold conN; split; exact Gf.pow_lt _ _; decide
set_option maxRecDepth 100000 in
theorem pow_p (a : Nat) (n : Int) (w : World) (ha : a ≤ 255) (hn : n ≤ 9223372036854775807) : Calls Tryd.prog 146 #[.int .u8 (a : Int), .int .i64 n] w fun e w' => e = .returned (.int .u8 ((Gf.pow a n.toNat : Nat) : Int)) ∧ w = w' := by
  have h := Field.pow_any (a : Int) n w (by omega) (by omega) hn
  simpa using h
set_option maxRecDepth 100000 in
theorem pow2p (a : Nat) (i : Int) (w : World) (ha : a ≤ 255) (hi : i ≤ 254) : Calls Tryd.prog 146 #[.int .u8 (a : Int), .int .i64 i] w fun e w' => e = .returned (.int .u8 ((Gf.pow a i.toNat : Nat) : Int)) ∧ w = w' := pow_p a i w ha (by omega)
set_option maxRecDepth 100000 in
theorem const_any (i : Int) (c : Nat) (hc : c = conN i) : Ret 144 #[.int .i64 i] (.int .u8 (c : Int)) := by
  intro w
  by_cases h : 1 ≤ i ∧ i ≤ 255
  · obtain ⟨h1, h2⟩ := h
    have c1 : Ret 146 #[.int .u8 2, .int .i64 (i - 1)] (.int .u8 (c : Int)) := fun w => by
      rw [hc, conN, if_pos ⟨h1, h2⟩]
      exact pow2p 2 (i - 1) w (by decide) (by omega)
    clear hc
    go_enter Tryd.func144, Tryd.ntmps144
    go_wp2_with fail
    refine (c1).calls ?_
    go_wp2_with fail
    go_ret
    exact ⟨rfl, rfl⟩
  · have hc0 : c = 0 := by rw [hc, conN, if_neg h]
    subst hc0
    clear hc
    by_cases h1 : i < 1
    · clear h
      go_enter Tryd.func144, Tryd.ntmps144
      go_wp2_with fail
      go_ret
      exact ⟨rfl, rfl⟩
    · have h2 : 255 < i := by omega
      clear h
      go_enter Tryd.func144, Tryd.ntmps144
      go_wp2_with fail
      go_ret
      exact ⟨rfl, rfl⟩

/-- the exclusive or of two strings, as long as the shorter one -/
def xorS (a b : ByteArray) : ByteArray := strOfNums ((List.range (min a.size b.size)).map (Oct.xorV a.data.toList b.data.toList))
theorem xorS_size (a b : ByteArray) : (xorS a b).size = min a.size b.size := by unfold xorS; rw [strOfNums_size]; simp
theorem xor_m (a b : ByteArray) (ha : a.size ≤ 140737488355328) (hb : b.size ≤ 140737488355328) (X : ByteArray) (hX : X = xorS a b) : Mak 74 #[.string a, .string b] (.string X) := fun w => by
  rw [hX]; exact Oct.xor_any a b w _ rfl ha hb
theorem put1 (c : Nat) (h : c < 256) : strOfNums (Oct.putL (c : Int) 1) = bs [UInt8.ofNat c] := by
  rw [RefOct.put_same _ 1 (by decide)]
  show bs [UInt8.ofNat ((c : Int) / 2 ^ (8 * 0) % 256).toNat] = _
  have e : ((c : Int) / 2 ^ (8 * 0) % 256).toNat = c := by simp; omega
  rw [e]
def rot (l : List UInt8) : List UInt8 := (l.drop 1).take 3 ++ l.take 1
/-- what is added to a word: the word ahead of it, prepared -/
def trans (t : ByteArray) (i n : Nat) : ByteArray :=
  if i % n = 0 then xorS (bs (subL (rot t.data.toList))) (bs [UInt8.ofNat (conN ((i / n : Nat) : Int)), 0, 0, 0]) else if n = 8 ∧ i % 8 = 4 then bs (subL t.data.toList) else t
theorem trans_size (t : ByteArray) (i n : Nat) (ht : t.size = 4) : (trans t i n).size = 4 := by
  have hl : t.data.toList.length = 4 := ht
  unfold trans
  split
  · rw [xorS_size, size_bs, size_bs, subL_len, rot]; simp [hl]
  · split
    · rw [size_bs, subL_len, hl]
    · exact ht
set_option maxRecDepth 100000 in
set_option maxHeartbeats 2000000 in
theorem tr_mak (t : ByteArray) (ht : t.size = 4) (i n : Nat) (hn : n = 4 ∨ n = 6 ∨ n = 8) (hi : n ≤ i) (hi2 : i ≤ 60) (X : ByteArray) (hX : X = trans t i n) : Mak 126 #[.string t, .int .i64 (i : Int), .int .i64 (n : Int)] (.string X) := by
  intro w
  have hl : t.data.toList.length = 4 := ht
  have H0 := Lib.hid (Since.refl w)
  have hnp : 0 < n := by omega
  have hti : (t.size : Int) = 4 := by omega
  have em : (i : Int) % (n : Int) = ((i % n : Nat) : Int) := by simp
  by_cases h : i % n = 0
  · have e1 : (i : Int) % (n : Int) = 0 := by omega
    obtain ⟨q, hq⟩ : ∃ q, q = i / n := ⟨_, rfl⟩
    have e2 : (i : Int) / (n : Int) = (q : Int) := by rw [hq]; simp
    have hq60 : q ≤ 60 := by rw [hq]; exact Nat.le_trans (Nat.div_le_self _ _) hi2
    have c1 : Ret 61 #[.string t, .int .i64 1, .int .i64 3] (.string (bs ((t.data.toList.drop 1).take 3))) := fun w => Oct.cut_yes t 1 3 w (by omega) (by decide) (by omega) (by decide)
    have c2 : Ret 61 #[.string t, .int .i64 0, .int .i64 1] (.string (bs ((t.data.toList.drop 0).take 1))) := fun w => Oct.cut_yes t 0 1 w (by omega) (by decide) (by omega) (by decide)
    obtain ⟨A, hA⟩ : ∃ A, A = bs ((t.data.toList.drop 1).take 3) := ⟨_, rfl⟩
    obtain ⟨B, hB⟩ : ∃ B, B = bs ((t.data.toList.drop 0).take 1) := ⟨_, rfl⟩
    rw [← hA] at c1
    rw [← hB] at c2
    obtain ⟨J, hJ⟩ : ∃ J, J = bs (rot t.data.toList) := ⟨_, rfl⟩
    have hJc : J = bs (Oct.cat [A, B]) := by rw [hJ, hA, hB, Oct.cat_two, list_bs, list_bs, List.drop_zero]; rfl
    have hJs : J.size = 4 := by rw [hJ, size_bs, rot]; simp [hl]
    obtain ⟨c, hc⟩ : ∃ c, c = conN ((q : Nat) : Int) := ⟨_, rfl⟩
    have hc256 : c < 256 := by rw [hc]; exact conN_lt _
    have c3 := const_any (q : Int) c hc
    have c4 : Mak 58 #[.int .u64 (c : Int), .int .i64 1] (.string (bs [UInt8.ofNat c])) := fun w => by
      have h := Oct.put_mid (c : Int) 1 w (by omega) (by omega) (by decide) (by decide)
      rwa [put1 c hc256] at h
    have c5 : Mak 94 #[.string (bs [UInt8.ofNat c]), .int .i64 4] (.string (bs [UInt8.ofNat c, 0, 0, 0])) := fun w => Oct.pad_odd (bs [UInt8.ofNat c]) 4 1 w (by rw [size_bs]; simp) (by decide) (by decide) rfl (by decide)
    have c6 := subs_m J (by omega) (bs (subL (rot t.data.toList))) (by rw [hJ, list_bs])
    have c7 := xor_m (bs (subL (rot t.data.toList))) (bs [UInt8.ofNat c, 0, 0, 0]) (by rw [size_bs, subL_len, rot]; simp [hl]) (by rw [size_bs]; simp) X (by
      rw [hX]; unfold trans; rw [if_pos h, hc, hq])
    generalize bs (subL (rot t.data.toList)) = S at c6 c7
    generalize bs [UInt8.ofNat c, 0, 0, 0] = P at c5 c7
    generalize bs [UInt8.ofNat c] = Q at c4 c5
    have c8 := fun W => Oct.join_lit W [A, B] 2 rfl #[.string A, .string B] rfl J hJc (by omega) (by decide)
    have HC8 := Lib.hid c8
    clear c8 hA hB hJ hJc hc hq hX h em hJs
    go_enter Tryd.func126, Tryd.ntmps126
    go_wp2_with fail
    refine (c1).calls ?_
    go_wp2_with fail
    refine (c2).calls ?_
    go_wp2_with fail
    refine (HC8.out w).mono ?_
    rintro e w1 ⟨rfl, h1⟩
    have H1 := Lib.hid (Since.step H0.out h1)
    clear h1
    go_wp2_with fail
    refine (c3).calls ?_
    go_wp2_with fail
    refine c4.calls H1.out ?_
    intro w2 h2
    have H2 := Lib.hid h2
    clear h2
    go_wp2_with fail
    refine c6.calls H2.out ?_
    intro w3 h3
    have H3 := Lib.hid h3
    clear h3
    go_wp2_with fail
    refine c5.calls H3.out ?_
    intro w4 h4
    have H4 := Lib.hid h4
    clear h4
    go_wp2_with fail
    refine c7.calls H4.out ?_
    intro w5 h5
    have H5 := Lib.hid h5
    clear h5
    go_wp2_with fail
    go_ret
    exact ⟨rfl, H5.out⟩
  · have e1 : ((i : Int) % (n : Int) == 0) = false := by rw [em, beq_eq_false_iff_ne]; omega
    by_cases h8 : n = 8 ∧ i % 8 = 4
    · obtain ⟨rfl, h4⟩ := h8
      have e2 : (i : Int) % 8 = 4 := by omega
      have c6 := subs_m t (by omega) X (by rw [hX]; unfold trans; rw [if_neg h, if_pos ⟨rfl, h4⟩])
      clear h hX em h4
      go_enter Tryd.func126, Tryd.ntmps126
      go_wp2_with fail
      refine c6.calls H0.out ?_
      intro w2 h2
      have H2 := Lib.hid h2
      clear h2
      go_wp2_with fail
      go_ret
      exact ⟨rfl, H2.out⟩
    · have hXt : X = t := by rw [hX]; unfold trans; rw [if_neg h, if_neg h8]
      subst hXt
      by_cases hn8 : n = 8
      · subst hn8
        have e2 : ((i : Int) % 8 == 4) = false := by rw [beq_eq_false_iff_ne]; omega
        clear h hX h8 em
        go_enter Tryd.func126, Tryd.ntmps126
        go_wp2_with fail
        go_ret
        exact ⟨rfl, H0.out⟩
      · have e2 : ((n : Int) == 8) = false := by rw [beq_eq_false_iff_ne]; omega
        clear h hX h8 em
        go_enter Tryd.func126, Tryd.ntmps126
        go_wp2_with fail
        go_ret
        exact ⟨rfl, H0.out⟩

def word (ss : List ByteArray) (i n : Nat) : ByteArray := xorS (ss.getD (i - n) ⟨#[]⟩) (trans (ss.getD (i - 1) ⟨#[]⟩) i n)
/-- words, k more -/
def grow (ss : List ByteArray) (n : Nat) : Nat → List ByteArray
  | 0 => ss
  | k + 1 => grow ss n k ++ [word (grow ss n k) (n + k) n]
theorem grow_len (ss : List ByteArray) (n k : Nat) : (grow ss n k).length = ss.length + k := by
  induction k with
  | zero => rfl
  | succ k ih => simp [grow, ih]; omega
theorem grow_size (ss : List ByteArray) (n k : Nat) (hn : 1 ≤ n) (hl : ss.length = n) (h : ∀ x ∈ ss, x.size = 4) : ∀ x ∈ grow ss n k, x.size = 4 := by
  induction k with
  | zero => exact h
  | succ k ih =>
    intro x hx
    simp only [grow, List.mem_append, List.mem_singleton] at hx
    rcases hx with hx | rfl
    · exact ih x hx
    · have hlen := grow_len ss n k
      have e1 : (grow ss n k).getD (n + k - n) ⟨#[]⟩ ∈ grow ss n k := by
        rw [List.getD, List.getElem?_eq_getElem (by omega)]; exact List.getElem_mem _
      have e2 : (grow ss n k).getD (n + k - 1) ⟨#[]⟩ ∈ grow ss n k := by
        rw [List.getD, List.getElem?_eq_getElem (by omega)]; exact List.getElem_mem _
      unfold word
      rw [xorS_size, ih _ e1, trans_size _ _ _ (ih _ e2)]
      rfl
def first (l : List UInt8) (n : Nat) : List ByteArray := Oct.pcs l 4 n
theorem first_size (l : List UInt8) (n : Nat) (hl : l.length = 4 * n) : ∀ x ∈ first l n, x.size = 4 := by
  intro x hx
  unfold first Oct.pcs at hx
  obtain ⟨i, hi, rfl⟩ := List.mem_map.1 hx
  rw [List.mem_range] at hi
  unfold Oct.pc
  rw [size_bs, List.length_take, List.length_drop]
  omega
/-- the words of a key of n words -/
def wordsL (l : List UInt8) (n : Nat) : List ByteArray := grow (first l n) n (3 * n + 28)
theorem wordsL_len (l : List UInt8) (n : Nat) : (wordsL l n).length = 4 * n + 28 := by
  unfold wordsL; rw [grow_len, first, Oct.pcs_len]; omega

structure PK (w0 : World) (v : Value) (ss : List ByteArray) (W : World) : Prop where
  since : Since w0 W
  own : Strs W w0.heap.size v ss
theorem Strs.below {W W' : World} {b : Nat} {v : Value} {ss : List ByteArray} (h : Strs W b v ss) (hb : Below W.heap.size W W') : Strs W' b v ss := by
  obtain ⟨h1, h2⟩ := h
  refine ⟨h1, ?_⟩
  rcases h2 with h2 | ⟨g, cap, cur, rfl, hg0, hg, hn, hm, hsz, htk⟩
  · exact Or.inl h2
  · exact Or.inr ⟨g, cap, cur, rfl, hg0, (hb.block g (Array.getElem?_eq_some_iff.1 hg).1).trans hg, hn, hm, hsz, htk⟩
theorem pkstep {w0 W W' : World} {v : Value} {ss : List ByteArray} (hb : Below W.heap.size W W') (h : Hid (PK w0 v ss W)) : Hid (PK w0 v ss W') := Lib.hid ⟨h.out.since.step hb, Strs.below h.out.own hb⟩
theorem pkdrew {w0 W : World} {v : Value} {ss : List ByteArray} (h : Hid (PK w0 v ss W)) : Hid (PK w0 v ss W.drew) := pkstep (Below.drew (Below.refl _ _)) h
theorem pkalloc {w0 W : World} {v : Value} {ss : List ByteArray} (o : Obj) (h : Hid (PK w0 v ss W)) : Hid (PK w0 v ss (W.alloc o)) := pkstep (Below.alloc (Below.refl _ _) (Nat.le_refl _) o) h
theorem pkcell {w0 W : World} {g n cap : Nat} {ss : List ByteArray} (h : Hid (PK w0 (.slice (some ⟨g, 0, none⟩) n cap) ss W)) (i : Nat) (hi : i < ss.length) : W.cell? ⟨g, i, none⟩ = some (.string (ss.getD i ⟨#[]⟩)) := by
  have h1 := h.out.own
  have hn : n = ss.length := by
    obtain ⟨_, h2⟩ := h1
    rcases h2 with ⟨h2, h3⟩ | ⟨_, _, _, h2, _⟩
    · cases h2
    · cases h2; rfl
  subst hn
  have h2 := World.ownsRow.cellAt h1 i (by omega)
  rw [h2]
  simp [List.getD, hi]
end Sched
end Go.Proofs.YtgfdomdbjiflmaaDoor
