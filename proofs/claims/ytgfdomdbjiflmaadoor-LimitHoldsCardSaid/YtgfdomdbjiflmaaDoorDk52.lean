/- Joined texts. -/
-- PACK: YtgfdomdbjiflmaaDoorRefTempl YtgfdomdbjiflmaaDoorTemplM
import Derived.Test.YtgfdomdbjiflmaaDoorDk50
import Derived.Deep.RegionHeld3

/- The reference of templ: Encode. -/
namespace Go.Proofs.YtgfdomdbjiflmaaDoor
open Go.RowKit
namespace Templ
open Att
/-- what stands while a round's calls are made: an attribute among those that were handed in -/
structure KA (WB : World) (b q : Nat) (t : Int) (s : ByteArray) (W : World) : Prop where
  since : Since WB W
  c0 : W.cell? ⟨b, q, none⟩ = some (.int .i64 t)
  c1 : W.cell? ⟨b, q + 1, none⟩ = some (.string s)
  lb : b < W.heap.size
theorem ka_step {WB : World} {b q : Nat} {t : Int} {s : ByteArray} {W W' : World} (hb : Below W.heap.size W W') (h : Hid (KA WB b q t s W)) : Hid (KA WB b q t s W') :=
  Lib.hid ⟨h.out.since.step hb, (hb.cell (p := ⟨b, q, none⟩) h.out.lb).trans h.out.c0, (hb.cell (p := ⟨b, q + 1, none⟩) h.out.lb).trans h.out.c1, Nat.lt_of_lt_of_le h.out.lb hb.size⟩
theorem ka_drew {WB : World} {b q : Nat} {t : Int} {s : ByteArray} {W : World} (h : Hid (KA WB b q t s W)) : Hid (KA WB b q t s W.drew) := ka_step (Below.drew (Below.refl _ _)) h
theorem ka3 {WB : World} {b q : Nat} {t : Int} {s : ByteArray} {W : World} (h : Hid (KA WB b q t s W)) : Hid (KA WB b q t s W) ∧ W.cell? ⟨b, q, none⟩ = some (.int .i64 t) ∧ W.cell? ⟨b, q + 1, none⟩ = some (.string s) := ⟨h, h.out.c0, h.out.c1⟩
end Templ
end Go.Proofs.YtgfdomdbjiflmaaDoor

/- Package templ: plain mathematics: attributes out of bytes. -/
namespace Go.Proofs.YtgfdomdbjiflmaaDoor
open Go.RowKit
namespace Templ
open Att
def prsF : Nat → List UInt8 → Option (List A2)
  | 0, l => if l.length = 0 then some [] else none
  | f + 1, l => if l.length = 0 then some [] else if l.length < 3 then none else if l.length < 3 + (l.getD 2 0).toNat then none else
    match prsF f (l.drop (3 + (l.getD 2 0).toNat)) with
    | none => none
    | some L => some ((256 * ((l.getD 0 0).toNat : Int) + ((l.getD 1 0).toNat : Int), bs ((l.drop 3).take (l.getD 2 0).toNat)) :: L)
theorem prsF_fuel : ∀ (f g : Nat) (l : List UInt8), l.length ≤ f → l.length ≤ g → prsF f l = prsF g l := by
  intro f
  induction f with
  | zero =>
    intro g l h1 h2
    cases g with
    | zero => rfl
    | succ g => unfold prsF; rw [if_pos (by omega), if_pos (by omega)]
  | succ f ih =>
    intro g l h1 h2
    by_cases h0 : l.length = 0
    · cases g with
      | zero => unfold prsF; rw [if_pos h0, if_pos h0]
      | succ g => unfold prsF; rw [if_pos h0, if_pos h0]
    · obtain ⟨g, rfl⟩ : ∃ g', g = g' + 1 := ⟨g - 1, by omega⟩
      unfold prsF
      rw [if_neg h0, if_neg h0]
      split
      · rfl
      · split
        · rfl
        · rw [ih g (l.drop (3 + (l.getD 2 0).toNat)) (by rw [List.length_drop]; omega) (by rw [List.length_drop]; omega)]
/-- the attributes that stand in bytes, one behind the other -/
def prs (l : List UInt8) : Option (List A2) := prsF l.length l
theorem prs_nil : prs [] = some [] := rfl
theorem prs_short (l : List UInt8) (h0 : 0 < l.length) (h : l.length < 3) : prs l = none := by
  unfold prs
  obtain ⟨f, hf⟩ : ∃ f, l.length = f + 1 := ⟨l.length - 1, by omega⟩
  rw [hf]; unfold prsF
  rw [if_neg (by omega), if_pos h]
theorem prs_cut (l : List UInt8) (h : 3 ≤ l.length) (h2 : l.length < 3 + (l.getD 2 0).toNat) : prs l = none := by
  unfold prs
  obtain ⟨f, hf⟩ : ∃ f, l.length = f + 1 := ⟨l.length - 1, by omega⟩
  rw [hf]; unfold prsF
  rw [if_neg (by omega), if_neg (by omega), if_pos h2]
theorem prs_step (l : List UInt8) (h : 3 ≤ l.length) (h2 : 3 + (l.getD 2 0).toNat ≤ l.length) : prs l = match prs (l.drop (3 + (l.getD 2 0).toNat)) with
    | none => none
    | some L => some ((256 * ((l.getD 0 0).toNat : Int) + ((l.getD 1 0).toNat : Int), bs ((l.drop 3).take (l.getD 2 0).toNat)) :: L) := by
  unfold prs
  obtain ⟨f, hf⟩ : ∃ f, l.length = f + 1 := ⟨l.length - 1, by omega⟩
  rw [hf]
  conv => lhs; unfold prsF
  rw [if_neg (by omega), if_neg (by omega), if_neg (by omega), prsF_fuel f (l.drop (3 + (l.getD 2 0).toNat)).length _ (by rw [List.length_drop]; omega) (Nat.le_refl _)]
/-- what is left is s', what was read L -/
def goes (l : List UInt8) (L : List A2) (r : List UInt8) : Prop := prs l = match prs r with | none => none | some M => some (L ++ M)
theorem goes_start (l : List UInt8) : goes l [] l := by unfold goes; cases prs l <;> rfl
theorem goes_end {l : List UInt8} {L : List A2} (h : goes l L []) : prs l = some L := by unfold goes at h; rw [h, prs_nil]; simp
theorem goes_none {l r : List UInt8} {L : List A2} (h : goes l L r) (hr : prs r = none) : prs l = none := by unfold goes at h; rw [h, hr]
theorem goes_step {l r : List UInt8} {L : List A2} (h : goes l L r) (h1 : 3 ≤ r.length) (h2 : 3 + (r.getD 2 0).toNat ≤ r.length) : goes l (L ++ [(256 * ((r.getD 0 0).toNat : Int) + ((r.getD 1 0).toNat : Int), bs ((r.drop 3).take (r.getD 2 0).toNat))]) (r.drop (3 + (r.getD 2 0).toNat)) := by
  unfold goes at *
  rw [h, prs_step r h1 h2]
  cases prs (r.drop (3 + (r.getD 2 0).toNat)) with
  | none => rfl
  | some M => simp
/-- the attributes whose digits a text has -/
def decO (t : List UInt8) : Option (List A2) := if Dig.unB t then prs (Dig.unS t).data.toList else none
def pL : Option (List A2) → List A2
  | some L => if attOk L then L else []
  | none => []
def pE : Option (List A2) → Int
  | some L => attE L
  | none => 5
theorem p_bad (L : List A2) (h2 : attE L ≠ 0) : pL (some L) = [] := if_neg (fun h3 => h2 ((attE_zero L).2 h3))
theorem p_good (L : List A2) (h2 : attE L = 0) : pL (some L) = L := if_pos ((attE_zero L).1 h2)
theorem attE_or (L : List A2) : attE L = 0 ∨ attE L = 11 := by unfold attE; cases attOk L <;> simp
/-- there and back -/
theorem low2 (n : Int) (h0 : 0 ≤ n) (h : n ≤ 65535) : RefOct.low n 2 = [UInt8.ofNat (n / 256).toNat, UInt8.ofNat (n % 256).toNat] := by
  have h1 : (2 : Int) ^ (8 * 1) = 256 := by decide
  have h2 : (2 : Int) ^ (8 * 0) = 1 := by decide
  show [UInt8.ofNat (n / 2 ^ (8 * 1) % 256).toNat, UInt8.ofNat (n / 2 ^ (8 * 0) % 256).toNat] = _
  rw [h1, h2, Int.ediv_one]
  have : n / 256 % 256 = n / 256 := by omega
  rw [this]
theorem low1 (n : Int) (h0 : 0 ≤ n) (h : n ≤ 255) : RefOct.low n 1 = [UInt8.ofNat n.toNat] := by
  have h2 : (2 : Int) ^ (8 * 0) = 1 := by decide
  show [UInt8.ofNat (n / 2 ^ (8 * 0) % 256).toNat] = _
  rw [h2, Int.ediv_one]
  have : n % 256 = n := by omega
  rw [this]
theorem u8_nat (n : Nat) (h : n < 256) : (UInt8.ofNat n).toNat = n := by rw [UInt8.toNat_ofNat']; exact Nat.mod_eq_of_lt h
theorem prs_raw (l : List A2) (h : ∀ p ∈ l, 1 ≤ p.1 ∧ p.1 ≤ 65535 ∧ p.2.size ≤ 255) : prs (rawT l) = some l := by
  induction l with
  | nil => rfl
  | cons p l ih =>
    have h1 := ih (fun q hq => h q (List.mem_cons_of_mem _ hq))
    obtain ⟨a, b, c⟩ := h p List.mem_cons_self
    have hd : p.2.data.toList.length = p.2.size := rfl
    have e : rawT (p :: l) = UInt8.ofNat (p.1 / 256).toNat :: UInt8.ofNat (p.1 % 256).toNat :: UInt8.ofNat p.2.size :: (p.2.data.toList ++ rawT l) := by
      rw [rawT_cons, low2 p.1 (by omega) b, low1 (p.2.size : Int) (by omega) (by omega)]
      rfl
    have hz : ((rawT (p :: l)).getD 2 0).toNat = p.2.size := by rw [e]; exact u8_nat _ (by omega)
    have h3 : 3 ≤ (rawT (p :: l)).length := by rw [e]; simp
    have h4 : 3 + ((rawT (p :: l)).getD 2 0).toNat ≤ (rawT (p :: l)).length := by rw [hz, e]; simp [hd]; omega
    rw [prs_step _ h3 h4, hz]
    have hdr : (rawT (p :: l)).drop (3 + p.2.size) = rawT l := by
      rw [e, ← List.drop_drop]
      show ((p.2.data.toList ++ rawT l)).drop p.2.size = _
      rw [← hd, List.drop_left]
    have htk : ((rawT (p :: l)).drop 3).take p.2.size = p.2.data.toList := by
      rw [e]
      show ((p.2.data.toList ++ rawT l)).take p.2.size = _
      rw [← hd, List.take_left]
    have h0 : (((rawT (p :: l)).getD 0 0).toNat : Int) = p.1 / 256 := by rw [e]; show ((UInt8.ofNat (p.1 / 256).toNat).toNat : Int) = _; rw [u8_nat _ (by omega)]; omega
    have h5 : (((rawT (p :: l)).getD 1 0).toNat : Int) = p.1 % 256 := by rw [e]; show ((UInt8.ofNat (p.1 % 256).toNat).toNat : Int) = _; rw [u8_nat _ (by omega)]; omega
    rw [hdr, h1, htk, h0, h5, bs_list]
    show some ((256 * (p.1 / 256) + p.1 % 256, p.2) :: l) = _
    rw [show 256 * (p.1 / 256) + p.1 % 256 = p.1 from by omega]
theorem raw_prs (l : List UInt8) (L : List A2) (h : prs l = some L) : rawT L = l := by
  have key : ∀ (n : Nat) (l : List UInt8) (L : List A2), l.length ≤ n → prs l = some L → rawT L = l := by
    intro n
    induction n with
    | zero =>
      intro l L hn h
      obtain rfl := List.length_eq_zero_iff.1 (show l.length = 0 by omega)
      rw [prs_nil] at h; cases h; rfl
    | succ n ih =>
      intro l L hn h
      by_cases h0 : l.length = 0
      · obtain rfl := List.length_eq_zero_iff.1 h0
        rw [prs_nil] at h; cases h; rfl
      by_cases h3 : l.length < 3
      · rw [prs_short l (by omega) h3] at h; cases h
      by_cases h4 : l.length < 3 + (l.getD 2 0).toNat
      · rw [prs_cut l (by omega) h4] at h; cases h
      rw [prs_step l (by omega) (by omega)] at h
      cases hr : prs (l.drop (3 + (l.getD 2 0).toNat)) with
      | none => rw [hr] at h; cases h
      | some M =>
        rw [hr] at h
        cases h
        have := ih _ M (by rw [List.length_drop]; omega) hr
        match l, h3 with
        | a :: b :: c :: r, _ =>
          have ha := a.toNat_lt
          have hb := b.toNat_lt
          have hc := c.toNat_lt
          rw [rawT_cons, this]
          show RefOct.low (256 * (a.toNat : Int) + (b.toNat : Int)) 2 ++ (RefOct.low ((bs (r.take c.toNat)).size : Int) 1 ++ (r.take c.toNat ++ (a :: b :: c :: r).drop (3 + c.toNat))) = _
          have hl : (r.take c.toNat).length = c.toNat := by
            have h9 : ¬ (a :: b :: c :: r).length < 3 + c.toNat := h4
            simp at h9
            rw [List.length_take]; omega
          rw [low2 _ (by omega) (by omega), size_bs, hl, low1 _ (by omega) (by omega), ← List.drop_drop]
          have e1 : ((256 * (a.toNat : Int) + (b.toNat : Int)) / 256).toNat = a.toNat := by omega
          have e2 : ((256 * (a.toNat : Int) + (b.toNat : Int)) % 256).toNat = b.toNat := by omega
          rw [e1, e2, Int.toNat_natCast]
          simp only [UInt8.ofNat_toNat]
          show a :: b :: c :: (r.take c.toNat ++ r.drop c.toNat) = _
          rw [List.take_append_drop]
        | [], h3 => exact absurd (by decide) h3
        | [_], h3 => exact absurd (by simp) h3
        | [_, _], h3 => exact absurd (by simp) h3
  exact key l.length l L (Nat.le_refl _) h
end Templ
end Go.Proofs.YtgfdomdbjiflmaaDoor
