/- Joined texts. -/
-- PACK: YtglilnlhgdhnmaaRnd3 YtglilnlhgdhnmaaRnd4 YtglilnlhgdhnmaaRndM
import Derived.Test.YtglilnlhgdhnmaaSk28
import Derived.Test.YtglilnlhgdhnmaaSk11
import Derived.Test.YtglilnlhgdhnmaaSk15
import Derived.Deep.WholeRow

/- Package round: the steps, and a round. -/
namespace Go.Proofs.Ytglilnlhgdhnmaa
open Go.RowKit
namespace Rnd

/-- a state's step -/
def Step (f : Nat) (T : List UInt8 → List UInt8) : Prop := ∀ (l : List UInt8) (C D : Array Value), C = stC l → D = stC (T l) → Mak f #[.agg C] (.agg D)
theorem boxed {w w1 : World} {C : Array Value} {t : TypeId} (h : Since (w.alloc (.cells C t)) w1) : w1.heap[w.heap.size]? = some (.cells C t (0, 0)) := by
  have h2 := h.block w.heap.size (by simp)
  exact h2.trans (Go.heap_alloc_new _ _)
def shiftL : List UInt8 → List UInt8 := pickL fun r c => (c + r) % 4
def unshiftL : List UInt8 → List UInt8 := pickL fun r c => (c + 4 - r) % 4
def mixF (j : Nat) : Nat := [2, 3, 1, 1].getD j 0
def unmixF (j : Nat) : Nat := [14, 11, 13, 9].getD j 0
def Z16 : Array Value := #[.int .u8 0, .int .u8 0, .int .u8 0, .int .u8 0, .int .u8 0, .int .u8 0, .int .u8 0, .int .u8 0, .int .u8 0, .int .u8 0, .int .u8 0, .int .u8 0, .int .u8 0, .int .u8 0, .int .u8 0, .int .u8 0]
theorem pickL_len (sel : Nat → Nat → Nat) (l : List UInt8) : (pickL sel l).length = 16 := mk16_len _
theorem mixL_len (fac : Nat → Nat) (l : List UInt8) : (mixL fac l).length = 16 := mk16_len _
set_option maxRecDepth 100000 in
theorem Step.calls {f : Nat} {T : List UInt8 → List UInt8} (h : Step f T) {l : List UInt8} {C : Array Value} (hC : C = stC l) {w : World} {R : Ending → World → Prop} (k : ∀ D w', D = stC (T l) → Below w.heap.size w w' → R (.returned (.agg D)) w') : Calls Try.prog f #[.agg C] w R :=
  (h l C _ hC rfl w).mono fun _ _ ⟨he, hb⟩ => by subst he; exact k _ _ rfl hb

theorem lt_of_heap {w : World} {b : Nat} {o : Obj} (h : w.heap[b]? = some o) : b < w.heap.size := (Array.getElem?_eq_some_iff.1 h).1
end Rnd
end Go.Proofs.Ytglilnlhgdhnmaa

/- Package round: two steps, and what the package offers. -/
namespace Go.Proofs.Ytglilnlhgdhnmaa
open Go.RowKit
namespace Rnd

theorem new_cell (w : World) (x : Value) (t : TypeId) : (w.alloc (.cells #[x] t)).cell? ⟨w.heap.size, 0, none⟩ = some x := World.cell?_alloc_at (w := w) _ _ _ 0 rfl
theorem new_cell0 (w : World) (x y : Value) (t : TypeId) : (w.alloc (.cells #[x, y] t)).cell? ⟨w.heap.size, 0, none⟩ = some x := World.cell?_alloc_at (w := w) _ _ _ 0 rfl
theorem new_cell1 (w : World) (x y : Value) (t : TypeId) : (w.alloc (.cells #[x, y] t)).cell? ⟨w.heap.size, 1, none⟩ = some y := World.cell?_alloc_at (w := w) _ _ _ 1 rfl

def xorL (a b : List UInt8) : List UInt8 := mk16 fun i => ent a i ^^^ ent b i
theorem xor_str (a b : List UInt8) : strOfNums ((List.range 16).map (Oct.xorV a b)) = bs (xorL a b) := by
  apply ba_ext
  rw [nums_list, list_bs, List.map_map]
  unfold xorL mk16
  apply List.map_congr_left
  intro i _
  show UInt8.ofNat (Oct.xorV a b i).toNat = UInt8.ofNat (ent a i ^^^ ent b i)
  rfl
def subL (l : List UInt8) : List UInt8 := l.map fun c => UInt8.ofNat (Sbox.sub c.toNat)
def backL (l : List UInt8) : List UInt8 := l.map fun c => UInt8.ofNat (Sbox.back c.toNat)
theorem sub_str (l : List UInt8) : strOfNums (l.map fun c => ((Sbox.sub c.toNat : Nat) : Int)) = bs (subL l) := by
  apply ba_ext; rw [nums_list, list_bs, List.map_map]; exact List.map_congr_left fun c _ => congrArg UInt8.ofNat (Int.toNat_natCast _)
theorem back_str (l : List UInt8) : strOfNums (l.map fun c => ((Sbox.back c.toNat : Nat) : Int)) = bs (backL l) := by
  apply ba_ext; rw [nums_list, list_bs, List.map_map]; exact List.map_congr_left fun c _ => congrArg UInt8.ofNat (Int.toNat_natCast _)
def doL (last : Bool) (l k : List UInt8) : List UInt8 := xorL (if last then shiftL (subL l) else mixL mixF (shiftL (subL l))) k
def undoL (last : Bool) (l k : List UInt8) : List UInt8 := backL (if last then unshiftL (xorL l k) else unshiftL (mixL unmixF (xorL l k)))
theorem bs_len (l : List UInt8) (h : l.length = 16) : (bs l).size = 16 := by rw [size_bs, h]
theorem subL_len (l : List UInt8) : (subL l).length = l.length := by simp [subL]
theorem backL_len (l : List UInt8) : (backL l).length = l.length := by simp [backL]
theorem shiftL_len (l : List UInt8) : (shiftL l).length = 16 := pickL_len _ _
theorem unshiftL_len (l : List UInt8) : (unshiftL l).length = 16 := pickL_len _ _
theorem xorL_len (a b : List UInt8) : (xorL a b).length = 16 := mk16_len _

end Rnd
end Go.Proofs.Ytglilnlhgdhnmaa

/- Package round: plain mathematics: what is undone is as it was. -/
namespace Go.Proofs.Ytglilnlhgdhnmaa
open Go.RowKit
namespace Rnd

theorem ext16 (a b : List UInt8) (ha : a.length = 16) (hb : b.length = 16) (h : ∀ i, i < 16 → ent a i = ent b i) : a = b := by
  apply List.ext_getElem?
  intro i
  by_cases hi : i < 16
  · have h1 := h i hi
    unfold ent at h1
    have h2 := UInt8.toNat_inj.1 h1
    rw [List.getElem?_eq_getElem (by omega), List.getElem?_eq_getElem (by omega)]
    simp [List.getD, List.getElem?_eq_getElem (show i < a.length by omega), List.getElem?_eq_getElem (show i < b.length by omega)] at h2
    rw [h2]
  · rw [List.getElem?_eq_none (by omega), List.getElem?_eq_none (by omega)]
theorem pick_ent (sel : Nat → Nat → Nat) (l : List UInt8) (i : Nat) (hi : i < 16) : ent (pickL sel l) i = ent l (4 * sel (i % 4) (i / 4) + i % 4) := mk16_ent (fun i => ent l (4 * sel (i % 4) (i / 4) + i % 4)) i hi (ent_lt _ _)
theorem shift_ent (l : List UInt8) (i : Nat) (hi : i < 16) : ent (shiftL l) i = ent l (4 * ((i / 4 + i % 4) % 4) + i % 4) := pick_ent _ l i hi
theorem unshift_ent (l : List UInt8) (i : Nat) (hi : i < 16) : ent (unshiftL l) i = ent l (4 * ((i / 4 + 4 - i % 4) % 4) + i % 4) := pick_ent _ l i hi
theorem xor_ent (a b : List UInt8) (i : Nat) (hi : i < 16) : ent (xorL a b) i = ent a i ^^^ ent b i := mk16_ent (fun i => ent a i ^^^ ent b i) i hi (Nat.xor_lt_two_pow (n := 8) (ent_lt _ _) (ent_lt _ _))
theorem mix_ent (fac : Nat → Nat) (l : List UInt8) (i : Nat) (hi : i < 16) : ent (mixL fac l) i = mixP fac l i 4 := mk16_ent (fun i => mixP fac l i 4) i hi (mixP_lt _ _ _ _)
theorem unshift_shift (l : List UInt8) (hl : l.length = 16) : unshiftL (shiftL l) = l := by
  refine ext16 _ _ (unshiftL_len _) hl fun i hi => ?_
  rw [unshift_ent _ _ hi, shift_ent _ _ (by omega)]
  congr 1
  omega
theorem shift_unshift (l : List UInt8) (hl : l.length = 16) : shiftL (unshiftL l) = l := by
  refine ext16 _ _ (shiftL_len _) hl fun i hi => ?_
  rw [shift_ent _ _ hi, unshift_ent _ _ (by omega)]
  congr 1
  omega
theorem shift4 (l : List UInt8) (hl : l.length = 16) : shiftL (shiftL (shiftL (shiftL l))) = l := by
  refine ext16 _ _ (shiftL_len _) hl fun i hi => ?_
  rw [shift_ent _ _ hi, shift_ent _ _ (by omega), shift_ent _ _ (by omega), shift_ent _ _ (by omega)]
  congr 1
  omega
theorem xor_xor (a b : List UInt8) (ha : a.length = 16) : xorL (xorL a b) b = a := by
  refine ext16 _ _ (xorL_len _ _) ha fun i hi => ?_
  rw [xor_ent _ _ _ hi, xor_ent _ _ _ hi, Nat.xor_assoc, Nat.xor_self, Nat.xor_zero]
theorem sb_all : (List.range 256).all (fun x => Sbox.back (Sbox.sub x) == x && Sbox.sub (Sbox.back x) == x) = true := by decide +kernel
theorem sb (x : Nat) (h : x < 256) : Sbox.back (Sbox.sub x) = x ∧ Sbox.sub (Sbox.back x) = x := by
  have := List.all_eq_true.1 sb_all x (List.mem_range.2 h)
  simpa using this
theorem back_sub (l : List UInt8) : backL (subL l) = l := by
  unfold backL subL
  rw [List.map_map]
  conv => rhs; rw [← List.map_id l]
  apply List.map_congr_left
  intro c _
  show UInt8.ofNat (Sbox.back (UInt8.ofNat (Sbox.sub c.toNat)).toNat) = c
  rw [UInt8.toNat_ofNat', Nat.mod_eq_of_lt (show Sbox.sub c.toNat < 2 ^ 8 from Sbox.sub_lt _), (sb c.toNat c.toNat_lt).1]
  simp
theorem sub_back (l : List UInt8) : subL (backL l) = l := by
  unfold backL subL
  rw [List.map_map]
  conv => rhs; rw [← List.map_id l]
  apply List.map_congr_left
  intro c _
  show UInt8.ofNat (Sbox.sub (UInt8.ofNat (Sbox.back c.toNat)).toNat) = c
  rw [UInt8.toNat_ofNat', Nat.mod_eq_of_lt (show Sbox.back c.toNat < 2 ^ 8 from Sbox.back_lt _), (sb c.toNat c.toNat_lt).2]
  simp

/-- the four columns' factors one behind the other give the unit -/
def g4 (f g : Nat → Nat) (a x : Nat) : Nat := ((Gf.mul (Gf.mul x (f a)) (g 0) ^^^ Gf.mul (Gf.mul x (f ((a + 3) % 4))) (g 1)) ^^^ Gf.mul (Gf.mul x (f ((a + 2) % 4))) (g 2)) ^^^ Gf.mul (Gf.mul x (f ((a + 1) % 4))) (g 3)
theorem g4_all : (List.range 256).all (fun x => g4 mixF unmixF 0 x == x && g4 mixF unmixF 1 x == 0 && g4 mixF unmixF 2 x == 0 && g4 mixF unmixF 3 x == 0 && (g4 unmixF mixF 0 x == x && g4 unmixF mixF 1 x == 0 && g4 unmixF mixF 2 x == 0 && g4 unmixF mixF 3 x == 0)) = true := by decide +kernel
structure Inv (f g : Nat → Nat) : Prop where
  h0 : ∀ x, x < 256 → g4 f g 0 x = x
  h1 : ∀ x, x < 256 → g4 f g 1 x = 0
  h2 : ∀ x, x < 256 → g4 f g 2 x = 0
  h3 : ∀ x, x < 256 → g4 f g 3 x = 0
theorem inv_mu : Inv mixF unmixF := by
  have h := fun x (hx : x < 256) => List.all_eq_true.1 g4_all x (List.mem_range.2 hx)
  simp only [Bool.and_eq_true, beq_iff_eq] at h
  exact ⟨fun x hx => (h x hx).1.1.1.1, fun x hx => (h x hx).1.1.1.2, fun x hx => (h x hx).1.1.2, fun x hx => (h x hx).1.2⟩
theorem inv_um : Inv unmixF mixF := by
  have h := fun x (hx : x < 256) => List.all_eq_true.1 g4_all x (List.mem_range.2 hx)
  simp only [Bool.and_eq_true, beq_iff_eq] at h
  exact ⟨fun x hx => (h x hx).2.1.1.1, fun x hx => (h x hx).2.1.1.2, fun x hx => (h x hx).2.1.2, fun x hx => (h x hx).2.2⟩
def sum4 (f : Nat → Nat) (a b c d : Nat) : Nat := ((Gf.mul a (f 0) ^^^ Gf.mul b (f 1)) ^^^ Gf.mul c (f 2)) ^^^ Gf.mul d (f 3)
theorem mixP4 (f : Nat → Nat) (l : List UInt8) (i : Nat) : mixP f l i 4 = sum4 f (ent l (4 * (i / 4) + (i % 4 + 0) % 4)) (ent l (4 * (i / 4) + (i % 4 + 1) % 4)) (ent l (4 * (i / 4) + (i % 4 + 2) % 4)) (ent l (4 * (i / 4) + (i % 4 + 3) % 4)) := by
  simp only [mixP, Nat.zero_xor]; rfl
theorem xor16 (a0 a1 a2 a3 b0 b1 b2 b3 c0 c1 c2 c3 d0 d1 d2 d3 : Nat) :
    ((((a0 ^^^ a1) ^^^ a2) ^^^ a3) ^^^ (((b0 ^^^ b1) ^^^ b2) ^^^ b3)) ^^^ (((c0 ^^^ c1) ^^^ c2) ^^^ c3) ^^^ (((d0 ^^^ d1) ^^^ d2) ^^^ d3) =
    ((((a0 ^^^ b3) ^^^ c2) ^^^ d1) ^^^ (((a1 ^^^ b0) ^^^ c3) ^^^ d2)) ^^^ (((a2 ^^^ b1) ^^^ c0) ^^^ d3) ^^^ (((a3 ^^^ b2) ^^^ c1) ^^^ d0) := by
  ac_rfl
theorem sum4_inv (f g : Nat → Nat) (h : Inv f g) (a b c d : Nat) (ha : a < 256) (hb : b < 256) (hc : c < 256) (hd : d < 256) :
    sum4 g (sum4 f a b c d) (sum4 f b c d a) (sum4 f c d a b) (sum4 f d a b c) = a := by
  have e0 := h.h0 a ha
  have e1 := h.h1 b hb
  have e2 := h.h2 c hc
  have e3 := h.h3 d hd
  unfold g4 at e0 e1 e2 e3
  simp only [Nat.reduceAdd, Nat.reduceMod, Nat.zero_add] at e0 e1 e2 e3
  unfold sum4
  simp only [Gf.mul_xl]
  rw [xor16, e0, e1, e2, e3]
  simp
theorem mix_inv (f g : Nat → Nat) (h : Inv f g) (l : List UInt8) (hl : l.length = 16) : mixL g (mixL f l) = l := by
  refine ext16 _ _ (mixL_len _ _) hl fun i hi => ?_
  rw [mix_ent _ _ _ hi, mixP4, mix_ent _ _ _ (by omega), mix_ent _ _ _ (by omega), mix_ent _ _ _ (by omega), mix_ent _ _ _ (by omega)]
  simp only [mixP4]
  have hr : i % 4 = 0 ∨ i % 4 = 1 ∨ i % 4 = 2 ∨ i % 4 = 3 := by omega
  obtain ⟨c, hc⟩ : ∃ c, c = i / 4 := ⟨_, rfl⟩
  rw [← hc]
  have q0 : ∀ k, k < 4 → (4 * c + k) / 4 = c := fun k hk => by omega
  have q1 : ∀ k, k < 4 → (4 * c + k) % 4 = k := fun k hk => by omega
  have hi2 : i = 4 * c + i % 4 := by omega
  rcases hr with hr | hr | hr | hr <;> rw [hr] at hi2 ⊢ <;> simp only [Nat.reduceAdd, Nat.reduceMod, Nat.zero_add, Nat.add_zero, q0 1 (by decide), q0 2 (by decide), q0 3 (by decide), q1 1 (by decide), q1 2 (by decide), q1 3 (by decide)] <;>
    (have z := fun k => ent_lt l k) <;> (rw [hi2]; first | exact sum4_inv f g h _ _ _ _ (z _) (z _) (z _) (z _) | (simp only [Nat.add_zero]; exact sum4_inv f g h _ _ _ _ (z _) (z _) (z _) (z _)) | (simpa using sum4_inv f g h _ _ _ _ (z _) (z _) (z _) (z _)))
theorem undo_do (last : Bool) (l k : List UInt8) (hl : l.length = 16) : undoL last (doL last l k) k = l := by
  have hs : (subL l).length = 16 := by rw [subL_len, hl]
  unfold undoL doL
  cases last with
  | true => simp only [if_true]; rw [xor_xor _ _ (shiftL_len _), unshift_shift _ hs, back_sub]
  | false => simp only [Bool.false_eq_true, if_false]; rw [xor_xor _ _ (mixL_len _ _), mix_inv _ _ inv_mu _ (shiftL_len _), unshift_shift _ hs, back_sub]
theorem do_undo (last : Bool) (l k : List UInt8) (hl : l.length = 16) : doL last (undoL last l k) k = l := by
  unfold undoL doL
  cases last with
  | true => simp only [if_true]; rw [sub_back, shift_unshift _ (xorL_len _ _), xor_xor _ _ hl]
  | false => simp only [Bool.false_eq_true, if_false]; rw [sub_back, shift_unshift _ (mixL_len _ _), mix_inv _ _ inv_um _ (xorL_len _ _), xor_xor _ _ hl]
theorem xor8 (a b c d a' b' c' d' : Nat) : ((((a ^^^ a') ^^^ (b ^^^ b')) ^^^ (c ^^^ c')) ^^^ (d ^^^ d')) = (((a ^^^ b) ^^^ c) ^^^ d) ^^^ (((a' ^^^ b') ^^^ c') ^^^ d') := by ac_rfl
theorem mix_add (f : Nat → Nat) (a b : List UInt8) : mixL f (xorL a b) = xorL (mixL f a) (mixL f b) := by
  refine ext16 _ _ (mixL_len _ _) (xorL_len _ _) fun i hi => ?_
  rw [mix_ent _ _ _ hi, xor_ent _ _ _ hi, mix_ent _ _ _ hi, mix_ent _ _ _ hi, mixP4, mixP4, mixP4, xor_ent _ _ _ (by omega), xor_ent _ _ _ (by omega), xor_ent _ _ _ (by omega), xor_ent _ _ _ (by omega)]
  unfold sum4
  simp only [Gf.mul_xl]
  exact xor8 _ _ _ _ _ _ _ _
theorem doL_len (last : Bool) (l k : List UInt8) : (doL last l k).length = 16 := xorL_len _ _
theorem undoL_len (last : Bool) (l k : List UInt8) : (undoL last l k).length = 16 := by
  unfold undoL; rw [backL_len]; cases last <;> exact unshiftL_len _
end Rnd
end Go.Proofs.Ytglilnlhgdhnmaa
