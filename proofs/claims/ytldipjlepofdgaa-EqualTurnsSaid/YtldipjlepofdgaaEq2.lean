/- Package equal: what the closures do, and what each function answers. -/
import Derived.Test.YtldipjlepofdgaaEq
import Derived.Laws.BitsAllLaws
namespace Go.Proofs.Ytldipjlepofdgaa
open Go.RowKit
namespace Eql

/-- one cell of an integer -/
def Cnt (w : World) (B : Nat) (c : Int) : Prop := w.rowIs B 3 1 (fun _ => .int .i64 c)

set_option maxHeartbeats 400000 in
theorem unlike1 (i : Int) (d B c : Nat) (w w0 : World) (h : Cnt w B c) (hc : c ≤ 140737488355328) (hd : d < 256) (hB : w0.heap.size ≤ B) (hs : Since w0 w) (c2 : Nat) (h2 : c2 = c + if d = 0 then 0 else 1) :
    Calls Try.prog 61 #[.int .i64 i, .int .u8 (d : Int), .pointer (some ⟨B, 0, none⟩)] w fun e w' => e = .returned (.tuple #[]) ∧ Cnt w' B c2 ∧ Since w0 w' := by
  have hcell := World.rowIs.cell h (i := 0) (by decide)
  have hfr := World.rowIs.frozen h 0
  have H := Lib.hid h
  have Hs := Lib.hid hs
  clear hs
  clear h
  by_cases h0 : d = 0
  · subst h0
    rw [if_pos rfl] at h2
    subst h2
    go_enter Try.func61, Try.ntmps61
    go_wp2_with fail
    go_end0
    exact ⟨rfl, H.out, Hs.out⟩
  · rw [if_neg h0] at h2
    subst h2
    have hb : ((d : Int) != 0) = true := by rw [bne_iff_ne]; omega
    clear h0
    go_enter Try.func61, Try.ntmps61
    go_wp2_with fail
    go_end0
    exact ⟨rfl, (World.rowIs.set H.out 0 _).congr (fun j hj => by rw [if_pos (by omega)]; rfl), Below.setCell Hs.out (p := ⟨B, 0, none⟩) hB _⟩

set_option maxHeartbeats 1000000 in
theorem unlike_any (a b : ByteArray) (hm : a.size ≤ 140737488355328) (hm2 : b.size ≤ 140737488355328) (X : Int) (hX : X = (unl a.data.toList b.data.toList (max a.size b.size) : Nat)) : Mak 52 #[.string a, .string b] (.int .i64 X) := by
  intro w
  have HX := Lib.hid hX
  clear hX
  have hcall := each_unlike a b _ rfl hm hm2 (.pointer (some ⟨w.heap.size, 0, none⟩)) (fun i w' => Cnt w' w.heap.size (unl a.data.toList b.data.toList i : Nat) ∧ Since w w')
    (fun i w' h => ⟨World.rowIs.drew h.1, Since.drew h.2⟩)
    (fun i w' hi h => unlike1 i _ _ _ w' w h.1 (Nat.le_trans (unl_le _ _ _) (by omega)) (df_lt _ _ _) (Nat.le_refl _) h.2 _ rfl)
    (w.alloc (.cells #[.int .i64 0] 3)) ⟨World.rowIs_alloc w #[.int .i64 0] 3 (fun _ => .int .i64 0) (fun i hi => by
      obtain rfl : i = 0 := by simp at hi; omega
      rfl), (Since.refl w).alloc _⟩
  have HC := Lib.hid hcall
  clear hcall
  go_enter Try.func52, Try.ntmps52
  go_wp2_with fail
  refine HC.out.mono ?_
  rintro e w2 ⟨rfl, hc, hs⟩
  rw [← HX.out] at hc
  have hcell := World.rowIs.cell hc (i := 0) (by decide)
  have Hc := Lib.hid hc
  clear hc
  have Hs := Lib.hid hs
  clear hs
  go_wp2_with fail
  go_ret
  exact ⟨rfl, Hs.out⟩

set_option maxHeartbeats 400000 in
theorem first1 (i : Nat) (d B : Nat) (c : Int) (w w0 : World) (h : Cnt w B c) (hd : d < 256) (hB : w0.heap.size ≤ B) (hs : Since w0 w) (c2 : Int) (h2 : c2 = if d ≠ 0 ∧ c < 0 then (i : Int) else c) :
    Calls Try.prog 62 #[.int .i64 (i : Int), .int .u8 (d : Int), .pointer (some ⟨B, 0, none⟩)] w fun e w' => e = .returned (.tuple #[]) ∧ Cnt w' B c2 ∧ Since w0 w' := by
  have hcell := World.rowIs.cell h (i := 0) (by decide)
  have hfr := World.rowIs.frozen h 0
  have H := Lib.hid h
  have Hs := Lib.hid hs
  clear hs
  clear h
  by_cases h0 : d = 0
  · subst h0
    rw [if_neg (fun h => h.1 rfl)] at h2
    subst h2
    go_enter Try.func62, Try.ntmps62
    go_wp2_with fail
    go_end0
    exact ⟨rfl, H.out, Hs.out⟩
  · have hb : ((d : Int) != 0) = true := by rw [bne_iff_ne]; omega
    by_cases hn : c < 0
    · rw [if_pos ⟨h0, hn⟩] at h2
      subst h2
      clear h0
      go_enter Try.func62, Try.ntmps62
      go_wp2_with fail
      go_end0
      exact ⟨rfl, (World.rowIs.set H.out 0 _).congr (fun j hj => by rw [if_pos (by omega)]), Below.setCell Hs.out (p := ⟨B, 0, none⟩) hB _⟩
    · rw [if_neg (fun h => hn h.2)] at h2
      subst h2
      clear h0
      go_enter Try.func62, Try.ntmps62
      go_wp2_with fail
      go_end0
      exact ⟨rfl, H.out, Hs.out⟩

set_option maxHeartbeats 1000000 in
theorem first_any (a b : ByteArray) (hm : a.size ≤ 140737488355328) (hm2 : b.size ≤ 140737488355328) (X : Int) (hX : X = fst a.data.toList b.data.toList (max a.size b.size)) : Mak 54 #[.string a, .string b] (.int .i64 X) := by
  intro w
  have HX := Lib.hid hX
  clear hX
  have hcall := each_first a b _ rfl hm hm2 (.pointer (some ⟨w.heap.size, 0, none⟩)) (fun i w' => Cnt w' w.heap.size (fst a.data.toList b.data.toList i) ∧ Since w w')
    (fun i w' h => ⟨World.rowIs.drew h.1, Since.drew h.2⟩)
    (fun i w' hi h => first1 i _ _ _ w' w h.1 (df_lt _ _ _) (Nat.le_refl _) h.2 _ rfl)
    (w.alloc (.cells #[.int .i64 (-1)] 3)) ⟨World.rowIs_alloc w #[.int .i64 (-1)] 3 (fun _ => .int .i64 (-1)) (fun i hi => by
      obtain rfl : i = 0 := by simp at hi; omega
      rfl), (Since.refl w).alloc _⟩
  have HC := Lib.hid hcall
  clear hcall
  go_enter Try.func54, Try.ntmps54
  go_wp2_with fail
  refine HC.out.mono ?_
  rintro e w2 ⟨rfl, hc, hs⟩
  rw [← HX.out] at hc
  have hcell := World.rowIs.cell hc (i := 0) (by decide)
  have Hc := Lib.hid hc
  clear hc
  have Hs := Lib.hid hs
  clear hs
  go_wp2_with fail
  go_ret
  exact ⟨rfl, Hs.out⟩

/-- the bits collected at place j of sixteen -/
def orA (a b : List UInt8) (j : Nat) : Nat → Nat
  | 0 => 0
  | n+1 => if n % 16 = j then orA a b j n ||| df a b n else orA a b j n
theorem orA_lt (a b : List UInt8) (j n : Nat) : orA a b j n < 256 := by
  induction n with
  | zero => unfold orA; omega
  | succ n ih =>
    unfold orA; split
    · exact Nat.or_lt_two_pow (n := 8) ih (df_lt a b n)
    · exact ih
theorem or_zero (x y : Nat) : x ||| y = 0 ↔ x = 0 ∧ y = 0 := Nat.or_eq_zero_iff
theorem orA_zero (a b : List UInt8) (n : Nat) : (∀ j, j < 16 → orA a b j n = 0) ↔ unl a b n = 0 := by
  induction n with
  | zero => exact ⟨fun _ => rfl, fun _ _ _ => rfl⟩
  | succ n ih =>
    constructor
    · intro h
      have h1 : unl a b n = 0 := ih.1 fun j hj => by
        have h2 := h j hj
        unfold orA at h2
        split at h2
        · exact (or_zero _ _).1 h2 |>.1
        · exact h2
      have h3 := h (n % 16) (Nat.mod_lt _ (by decide))
      unfold orA at h3
      rw [if_pos rfl] at h3
      have h4 := ((or_zero _ _).1 h3).2
      unfold unl
      rw [h1, if_pos h4]
    · intro h j hj
      unfold unl at h
      have h1 : unl a b n = 0 := by omega
      have h2 : df a b n = 0 := by
        apply Classical.byContradiction
        intro h3
        rw [if_neg h3] at h
        omega
      unfold orA
      rw [ih.2 h1 j hj, h2]
      split <;> rfl

/-- sixteen cells of bytes -/
def Bits (w : World) (B : Nat) (f : Nat → Nat) : Prop := w.rowIs B 62 16 (fun j => .int .u8 (f j : Nat))

set_option maxHeartbeats 1000000 in
theorem scan1 (i d B c : Nat) (f g : Nat → Nat) (w w0 : World) (hf : Bits w B f) (h : Cnt w (B + 1) c) (hi : i ≤ 140737488355328) (hc : c ≤ 140737488355328) (hd : d < 256) (hf2 : ∀ j, f j < 256) (hB : w0.heap.size ≤ B) (hs : Since w0 w)
    (hg : ∀ j, g j = if i % 16 = j then f j ||| d else f j) :
    Calls Try.prog 60 #[.int .i64 (i : Int), .int .u8 (d : Int), .pointer (some ⟨B, 0, none⟩), .pointer (some ⟨B + 1, 0, none⟩)] w fun e w' => e = .returned (.tuple #[]) ∧ (Bits w' B g ∧ Cnt w' (B + 1) (c + 1 : Nat)) ∧ Since w0 w' := by
  obtain ⟨r, hr⟩ : ∃ r, r = i % 16 := ⟨_, rfl⟩
  have hr2 : r < 16 := by omega
  have hri : (i : Int) % 16 = (r : Int) := by omega
  rw [← hr] at hg
  have hcell := World.rowIs.cell h (i := 0) (by decide)
  have hfr := World.rowIs.frozen h 0
  have hcell2 := World.rowIs.cell hf (i := r) hr2
  have hfr2 := World.rowIs.frozen hf r
  have ho : bits .or .u8 ((f r : Nat) : Int) (d : Int) = ((g r : Nat) : Int) := by rw [u8_or_nat _ _ (hf2 r) hd, hg r, if_pos rfl]
  have H := Lib.hid h
  have HF := Lib.hid hf
  have Hs := Lib.hid hs
  clear hs
  have Hg := Lib.hid hg
  clear hg
  have Hr := Lib.hid hr
  clear hr
  clear h hf hf2
  obtain ⟨x, hx⟩ : ∃ x, x = f r := ⟨_, rfl⟩
  obtain ⟨y, hy⟩ : ∃ y, y = g r := ⟨_, rfl⟩
  rw [← hx] at hcell2 ho
  rw [← hy] at ho
  have Hx := Lib.hid hx
  clear hx
  have Hy := Lib.hid hy
  clear hy
  have Ho := Lib.hid ho
  clear ho
  go_enter Try.func60, Try.ntmps60
  go_wp2_with fail
  go_end0
  rw [Ho.out]
  refine ⟨rfl, ⟨?_, ?_⟩, ?_⟩
  · exact (World.rowIs.setOther (World.rowIs.set HF.out r _) (a := ⟨B + 1, 0, none⟩) (by simp) _).congr (fun j hj => by
      by_cases hjr : j = r
      · rw [if_pos hjr, hjr, Hy.out]
      · rw [if_neg hjr, Hg.out j, if_neg (fun h => hjr h.symm)])
  · exact (World.rowIs.set (World.rowIs.setOther H.out (a := ⟨B, r, none⟩) (by simp) _) 0 _).congr (fun j hj => by rw [if_pos (by omega)]; rfl)
  · exact Below.setCell (Below.setCell Hs.out (p := ⟨B, r, none⟩) hB _) (p := ⟨B + 1, 0, none⟩) (by simp; omega) _

end Eql
end Go.Proofs.Ytldipjlepofdgaa
