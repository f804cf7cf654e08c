/- Joined texts. -/
-- PACK: YtgfdomdbjiflmaaDoorEq2
import Derived.Test.YtgfdomdbjiflmaaDoorDj26
import Derived.Laws.BitsAllLaws

/- Package equal: what the closures do, and what each function answers. -/
namespace Go.Proofs.YtgfdomdbjiflmaaDoor
open Go.RowKit
namespace Eql

/-- one cell of an integer -/
def Cnt (w : World) (B : Nat) (c : Int) : Prop := w.rowIs B 3 1 (fun _ => .int .i64 c)

/-- the bits collected at place j of sixteen -/
def orA (a b : List UInt8) (j : Nat) : Nat → Nat
  | 0 => 0
  | n+1 => if n % 16 = j then orA a b j n ||| df a b n else orA a b j n
theorem orA_lt (a b : List UInt8) (j n : Nat) : orA a b j n < 256 := by
  induction n with
  | zero => unfold orA; omega
  | succ n ih =>
    unfold orA; split
    · exact Nat.or_lt_two_pow (n := 8) ih (df_lt a b n)
    · exact ih
theorem or_zero (x y : Nat) : x ||| y = 0 ↔ x = 0 ∧ y = 0 := Nat.or_eq_zero_iff
theorem orA_zero (a b : List UInt8) (n : Nat) : (∀ j, j < 16 → orA a b j n = 0) ↔ unl a b n = 0 := by
  induction n with
  | zero => exact ⟨fun _ => rfl, fun _ _ _ => rfl⟩
  | succ n ih =>
    constructor
    · intro h
      have h1 : unl a b n = 0 := ih.1 fun j hj => by
        have h2 := h j hj
        unfold orA at h2
        split at h2
        · exact (or_zero _ _).1 h2 |>.1
        · exact h2
      have h3 := h (n % 16) (Nat.mod_lt _ (by decide))
      unfold orA at h3
      rw [if_pos rfl] at h3
      have h4 := ((or_zero _ _).1 h3).2
      unfold unl
      rw [h1, if_pos h4]
    · intro h j hj
      unfold unl at h
      have h1 : unl a b n = 0 := by omega
      have h2 : df a b n = 0 := by
        apply Classical.byContradiction
        intro h3
        rw [if_neg h3] at h
        omega
      unfold orA
      rw [ih.2 h1 j hj, h2]
      split <;> rfl

/-- sixteen cells of bytes -/
def Bits (w : World) (B : Nat) (f : Nat → Nat) : Prop := w.rowIs B 109 16 (fun j => .int .u8 (f j : Nat))

set_option maxRecDepth 100000 in
set_option maxHeartbeats 1000000 in
theorem scan1 (i d B c : Nat) (f g : Nat → Nat) (w w0 : World) (hf : Bits w B f) (h : Cnt w (B + 1) c) (hi : i ≤ 140737488355328) (hc : c ≤ 140737488355328) (hd : d < 256) (hf2 : ∀ j, f j < 256) (hB : w0.heap.size ≤ B) (hs : Since w0 w)
    (hg : ∀ j, g j = if i % 16 = j then f j ||| d else f j) :
    Calls Tryd.prog 85 #[.int .i64 (i : Int), .int .u8 (d : Int), .pointer (some ⟨B, 0, none⟩), .pointer (some ⟨B + 1, 0, none⟩)] w fun e w' => e = .returned (.tuple #[]) ∧ (Bits w' B g ∧ Cnt w' (B + 1) (c + 1 : Nat)) ∧ Since w0 w' := by
  obtain ⟨r, hr⟩ : ∃ r, r = i % 16 := ⟨_, rfl⟩
  have hr2 : r < 16 := by omega
  have hri : (i : Int) % 16 = (r : Int) := by omega
  rw [← hr] at hg
  have hcell := World.rowIs.cell h (i := 0) (by decide)
  have hfr := World.rowIs.frozen h 0
  have hcell2 := World.rowIs.cell hf (i := r) hr2
  have hfr2 := World.rowIs.frozen hf r
  have ho : bits .or .u8 ((f r : Nat) : Int) (d : Int) = ((g r : Nat) : Int) := by rw [u8_or_nat _ _ (hf2 r) hd, hg r, if_pos rfl]
  have H := Lib.hid h
  have HF := Lib.hid hf
  have Hs := Lib.hid hs
  clear hs
  have Hg := Lib.hid hg
  clear hg
  have Hr := Lib.hid hr
  clear hr
  clear h hf hf2
  obtain ⟨x, hx⟩ : ∃ x, x = f r := ⟨_, rfl⟩
  obtain ⟨y, hy⟩ : ∃ y, y = g r := ⟨_, rfl⟩
  rw [← hx] at hcell2 ho
  rw [← hy] at ho
  have Hx := Lib.hid hx
  clear hx
  have Hy := Lib.hid hy
  clear hy
  have Ho := Lib.hid ho
  clear ho
  go_enter Tryd.func85, Tryd.ntmps85
  go_wp2_with fail
  go_end0
  rw [Ho.out]
  refine ⟨rfl, ⟨?_, ?_⟩, ?_⟩
  · exact (World.rowIs.setOther (World.rowIs.set HF.out r _) (a := ⟨B + 1, 0, none⟩) (by simp) _).congr (fun j hj => by
      by_cases hjr : j = r
      · rw [if_pos hjr, hjr, Hy.out]
      · rw [if_neg hjr, Hg.out j, if_neg (fun h => hjr h.symm)])
  · exact (World.rowIs.set (World.rowIs.setOther H.out (a := ⟨B, r, none⟩) (by simp) _) 0 _).congr (fun j hj => by rw [if_pos (by omega)]; rfl)
  · exact Below.setCell (Below.setCell Hs.out (p := ⟨B, r, none⟩) hB _) (p := ⟨B + 1, 0, none⟩) (by simp; omega) _

end Eql
end Go.Proofs.YtgfdomdbjiflmaaDoor
