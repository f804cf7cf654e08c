/- Joined texts. -/
-- PACK: YtpakifiphdlkoaaDoorOid6 YtpakifiphdlkoaaDoorOid7
import Derived.RangeFuncNested
import Derived.RangeFuncBound
import Derived.RangeFuncLeaves
import Derived.Shelf.Abstract
import Derived.Shelf.RegionOpen
import Derived.OwnWalkIn
import Derived.TacticsInMore
import Derived.LoopNIn
import Derived.LoopIn
import Derived.Maps.AppendAt
import Derived.Test.YtpakifiphdlkoaaDoorPk21

/- Package oid: the numbers of contents, one behind the other, as an iterator. -/
namespace Go.Proofs.YtpakifiphdlkoaaDoor
open Go.RowKit Go.Shelf
attribute [local go_sem] Oper.semAt_some
namespace Oid

/-- what the iterator hands over: a number, or -1 -/
abbrev A31 := { x : Int // -1 ≤ x ∧ x ≤ 2147483647 }
def bad31 : A31 := ⟨-1, by decide⟩
def ns : List UInt8 → Nat → Bool → List A31
  | [], _, b => if b then [bad31] else []
  | c :: cs, n, b =>
    if h : (b = false ∧ c.toNat = 128) ∨ 16777215 < n then [bad31]
    else if 128 ≤ c.toNat then ns cs (n * 128 + c.toNat % 128) true
    else ⟨((n * 128 + c.toNat % 128 : Nat) : Int), by have := (not_or.1 h).2; omega⟩ :: ns cs 0 false
/-- what is made of them -/
def cons : List A31 → List Int → Option (List Int)
  | [], l => some l
  | x :: xs, l => if x.1 < 0 ∨ l.length = 20 then none else cons xs (push l x.1.toNat)
theorem cons_ns (cs : List UInt8) : ∀ (n : Nat) (b : Bool) (l : List Int), cons (ns cs n b) l = pd cs n b l := by
  induction cs with
  | nil =>
    intro n b l
    cases b with
    | true => simp [ns, pd, cons, bad31]
    | false => simp [ns, pd, cons]
  | cons c cs ih =>
    intro n b l
    unfold ns pd
    by_cases hA : (b = false ∧ c.toNat = 128) ∨ 16777215 < n
    · rw [dif_pos hA, if_pos hA]; simp [cons, bad31]
    · rw [dif_neg hA, if_neg hA]
      by_cases hB : 128 ≤ c.toNat
      · rw [if_pos hB, if_pos hB]; exact ih _ _ _
      · rw [if_neg hB, if_neg hB]
        unfold cons
        by_cases hl : l.length = 20
        · rw [if_pos (Or.inr hl), if_pos hl]
        · have h0 : ¬ ((n * 128 + c.toNat % 128 : Nat) : Int) < 0 := by omega
          rw [if_neg (by rintro (h | h); exact h0 h; exact hl h), if_neg hl]
          exact ih _ _ _
theorem cons_app (xs ys : List A31) : ∀ l : List Int, cons (xs ++ ys) l = (cons xs l).bind (cons ys) := by
  induction xs with
  | nil => intro l; rfl
  | cons x xs ih =>
    intro l
    rw [List.cons_append]
    unfold cons
    by_cases h : x.1 < 0 ∨ l.length = 20
    · rw [if_pos h, if_pos h]; rfl
    · rw [if_neg h, if_neg h]; exact ih _
theorem cons_pre (xs ys : List A31) (l : List Int) (h : xs <+: ys) (hn : cons xs l = none) : cons ys l = none := by
  obtain ⟨t, rfl⟩ := h
  rw [cons_app, hn]; rfl

theorem and127_nat (c : Nat) (h : c < 256) : bits .and .u8 (c : Int) 127 = (c : Int) % 128 := by
  have h1 := u8_and_nat c 127 h (by decide)
  rw [nat_mask7] at h1
  rw [show ((127 : Nat) : Int) = 127 from rfl] at h1
  rw [h1]; omega

end Oid
end Go.Proofs.YtpakifiphdlkoaaDoor

/- Package oid: Decode. -/
namespace Go.Proofs.YtpakifiphdlkoaaDoor
open Go.RowKit Go.Shelf
attribute [local go_sem] Oper.semAt_some
theorem Boxed_past {W w1 : World} {n0 B : Nat} {t e : TypeId} {size : Nat} {u v : Value} {k : Nat} {xs : List Value} {tmp : Obj} (h : Boxed W B t u) (hte : t ≠ e) (hrow : W.ownsRow n0 e size v k xs) (hg : (W.alloc tmp).grownBy w1 v.ownBlock) : Boxed w1 B t u :=
  (h.alloc tmp).kept hg (h.not_row hte hrow)
theorem Boxed_turn {W W' : World} {row : Option Nat} {B : Nat} {t : TypeId} {v : Value} (h : Boxed W B t v) (hg : W.grownBy W' row) (hr : ∀ r, row = some r → ∃ o : Obj, W.heap[r]? = some o ∧ o.isCells = false) : Boxed W' B t v :=
  h.kept hg (fun e => by obtain ⟨o, ho, hc⟩ := hr B e.symm; rw [show W.heap[B]? = _ from h] at ho; cases ho; cases hc)
theorem Row_turn {W W' : World} {row : Option Nat} {base size n : Nat} {e : TypeId} {v : Value} {xs : List Value} (h : W.ownsRow base e size v n xs) (hg : W.grownBy W' row) (hr : ∀ r, row = some r → ∃ o : Obj, W.heap[r]? = some o ∧ o.isCells = false) : W'.ownsRow base e size v n xs := by
  refine h.kept hg ?_
  rcases h.2 with ⟨rfl, _⟩ | ⟨g, cap, cur, rfl, _, hgb, _⟩
  · exact .inl rfl
  · refine .inr fun e' => ?_
    obtain ⟨o, ho, hc⟩ := hr g (by simpa [Value.ownBlock] using e'.symm)
    rw [hgb] at ho; cases ho; cases hc
namespace Oid
/-- two results in boxes, the slice that is collected in a third one, what is gone through in a fourth -/
structure Sta (b0 : Nat) (C : Value) (W : World) (v : Value) (l : List Int) : Prop where
  r0 : Boxed W b0 22 (.slice none 0 0)
  r1 : Boxed W (b0 + 1) 4 (.bool false)
  bx : Boxed W (b0 + 1 + 1) 22 v
  cx : Boxed W (b0 + 1 + 1 + 1) 9 C
  row : W.ownsRow b0 3 1 v l.length (l.map (Value.int .i64))
theorem Sta.turn {b0 : Nat} {C : Value} {W W' : World} {v : Value} {l : List Int} {row : Option Nat} (h : Sta b0 C W v l) (hg : W.grownBy W' row) (hr : ∀ r, row = some r → ∃ o : Obj, W.heap[r]? = some o ∧ o.isCells = false) : Sta b0 C W' v l :=
  ⟨Boxed_turn h.r0 hg hr, Boxed_turn h.r1 hg hr, Boxed_turn h.bx hg hr, Boxed_turn h.cx hg hr, Row_turn h.row hg hr⟩
theorem Sta.read {b0 : Nat} {C : Value} {W : World} {v : Value} {l : List Int} (h : Sta b0 C W v l) : IntsS W v l := SlR.own h.row
theorem Sta.app {b0 : Nat} {C : Value} {W w1 : World} {v v' : Value} {l : List Int} {x : Int} {tmp : Obj} (h : Sta b0 C W v l) (hb : b0 ≤ W.heap.size) (hown : w1.ownsRow b0 3 1 v' (l.length + 1) (l.map (Value.int .i64) ++ [.int .i64 x])) (hg : (W.alloc tmp).grownBy w1 v.ownBlock) :
    Sta b0 C (w1.setCell ⟨b0 + 1 + 1, 0, none⟩ v') v' (l ++ [x]) ∧ KeepsOthers W (w1.setCell ⟨b0 + 1 + 1, 0, none⟩ v') ∧ Below b0 W (w1.setCell ⟨b0 + 1 + 1, 0, none⟩ v') := by
  obtain ⟨_, a2, a3, a4, a5⟩ := Boxed.appended h.bx (by decide) h.row hb (by omega) hown hg
  refine ⟨⟨(Boxed_past h.r0 (by decide) h.row hg).other (by omega) _, (Boxed_past h.r1 (by decide) h.row hg).other (by omega) _, a2, (Boxed_past h.cx (by decide) h.row hg).other (by omega) _, ?_⟩, a4, a5⟩
  rw [List.length_append, List.map_append]; exact a3
theorem cons_snoc (pre : List A31) (x : A31) (l : List Int) (h : cons pre [] = some l) : cons (pre ++ [x]) [] = if x.1 < 0 ∨ l.length = 20 then none else some (push l x.1.toNat) := by
  rw [cons_app, h]
  rfl

theorem pre_len (pre : List A31) : ∀ l, cons pre [] = some l → l.length ≤ 20 := by
  have h : ∀ (pre : List A31) (m : List Int), m.length ≤ 20 → ∀ l, cons pre m = some l → l.length ≤ 20 := by
    intro pre
    induction pre with
    | nil => intro m hm l hl; cases hl; exact hm
    | cons x xs ih =>
      intro m hm l hl
      unfold cons at hl
      by_cases h : x.1 < 0 ∨ m.length = 20
      · rw [if_pos h] at hl; cases hl
      · rw [if_neg h] at hl
        refine ih _ ?_ l hl
        rw [push_len]
        have : m.length ≠ 20 := fun h9 => h (Or.inr h9)
        split <;> omega
  exact h pre [] (by simp)
/-- stores into two boxes of other types -/
theorem Boxed_row2 {W : World} {base n b b' : Nat} {e t t' : TypeId} {v u u' : Value} {xs : List Value} (h : W.ownsRow base e 1 v n xs) (h1 : Boxed W b t u) (h2 : Boxed W b' t' u') (ht : t ≠ e) (ht' : t' ≠ e) (x x' : Value) (hne : b' ≠ b) :
    ((W.setCell ⟨b, 0, none⟩ x).setCell ⟨b', 0, none⟩ x').ownsRow base e 1 v n xs := by
  have s1 : (W.setCell ⟨b, 0, none⟩ x).ownsRow base e 1 v n xs := h.kept (grownBy_setCell' W b x) (.inr (h1.not_row ht h).symm)
  exact s1.kept (grownBy_setCell' _ b' x') (.inr ((h2.other hne x).not_row ht' s1).symm)
end Oid
end Go.Proofs.YtpakifiphdlkoaaDoor
