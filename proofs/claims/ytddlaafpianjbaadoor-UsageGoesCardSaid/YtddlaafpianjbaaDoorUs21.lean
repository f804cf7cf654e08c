/- Joined texts. -/
-- PACK: YtddlaafpianjbaaDoorOid6 YtddlaafpianjbaaDoorOid7 YtddlaafpianjbaaDoorOid9 YtddlaafpianjbaaDoorOid10 YtddlaafpianjbaaDoorOidAwake
import Derived.RangeFuncNested
import Derived.RangeFuncBound
import Derived.RangeFuncLeaves
import Derived.Shelf.Abstract
import Derived.Shelf.RegionOpen
import Derived.OwnWalkIn
import Derived.TacticsInMore
import Derived.LoopNIn
import Derived.LoopIn
import Derived.Maps.AppendAt
import Derived.Test.YtddlaafpianjbaaDoorUs16
import Derived.Test.YtddlaafpianjbaaDoorUs1
import Derived.Test.YtddlaafpianjbaaDoorUs9
import Derived.Test.YtddlaafpianjbaaDoorUs8

/- Package oid: the numbers of contents, one behind the other, as an iterator. -/
namespace Go.Proofs.YtddlaafpianjbaaDoor
open Go.RowKit Go.Shelf
attribute [local go_sem] Oper.semAt_some
namespace Oid

/-- what the iterator hands over: a number, or -1 -/
abbrev A31 := { x : Int // -1 ≤ x ∧ x ≤ 2147483647 }
def bad31 : A31 := ⟨-1, by decide⟩
def ns : List UInt8 → Nat → Bool → List A31
  | [], _, b => if b then [bad31] else []
  | c :: cs, n, b =>
    if h : (b = false ∧ c.toNat = 128) ∨ 16777215 < n then [bad31]
    else if 128 ≤ c.toNat then ns cs (n * 128 + c.toNat % 128) true
    else ⟨((n * 128 + c.toNat % 128 : Nat) : Int), by have := (not_or.1 h).2; omega⟩ :: ns cs 0 false
/-- what is made of them -/
def cons : List A31 → List Int → Option (List Int)
  | [], l => some l
  | x :: xs, l => if x.1 < 0 ∨ l.length = 20 then none else cons xs (push l x.1.toNat)
theorem cons_ns (cs : List UInt8) : ∀ (n : Nat) (b : Bool) (l : List Int), cons (ns cs n b) l = pd cs n b l := by
  induction cs with
  | nil =>
    intro n b l
    cases b with
    | true => simp [ns, pd, cons, bad31]
    | false => simp [ns, pd, cons]
  | cons c cs ih =>
    intro n b l
    unfold ns pd
    by_cases hA : (b = false ∧ c.toNat = 128) ∨ 16777215 < n
    · rw [dif_pos hA, if_pos hA]; simp [cons, bad31]
    · rw [dif_neg hA, if_neg hA]
      by_cases hB : 128 ≤ c.toNat
      · rw [if_pos hB, if_pos hB]; exact ih _ _ _
      · rw [if_neg hB, if_neg hB]
        unfold cons
        by_cases hl : l.length = 20
        · rw [if_pos (Or.inr hl), if_pos hl]
        · have h0 : ¬ ((n * 128 + c.toNat % 128 : Nat) : Int) < 0 := by omega
          rw [if_neg (by rintro (h | h); exact h0 h; exact hl h), if_neg hl]
          exact ih _ _ _
theorem cons_app (xs ys : List A31) : ∀ l : List Int, cons (xs ++ ys) l = (cons xs l).bind (cons ys) := by
  induction xs with
  | nil => intro l; rfl
  | cons x xs ih =>
    intro l
    rw [List.cons_append]
    unfold cons
    by_cases h : x.1 < 0 ∨ l.length = 20
    · rw [if_pos h, if_pos h]; rfl
    · rw [if_neg h, if_neg h]; exact ih _
theorem cons_pre (xs ys : List A31) (l : List Int) (h : xs <+: ys) (hn : cons xs l = none) : cons ys l = none := by
  obtain ⟨t, rfl⟩ := h
  rw [cons_app, hn]; rfl

theorem and127_nat (c : Nat) (h : c < 256) : bits .and .u8 (c : Int) 127 = (c : Int) % 128 := by
  have h1 := u8_and_nat c 127 h (by decide)
  rw [nat_mask7] at h1
  rw [show ((127 : Nat) : Int) = 127 from rfl] at h1
  rw [h1]; omega

end Oid
end Go.Proofs.YtddlaafpianjbaaDoor

/- Package oid: Decode. -/
namespace Go.Proofs.YtddlaafpianjbaaDoor
open Go.RowKit Go.Shelf
attribute [local go_sem] Oper.semAt_some
theorem Boxed_past {W w1 : World} {n0 B : Nat} {t e : TypeId} {size : Nat} {u v : Value} {k : Nat} {xs : List Value} {tmp : Obj} (h : Boxed W B t u) (hte : t ≠ e) (hrow : W.ownsRow n0 e size v k xs) (hg : (W.alloc tmp).grownBy w1 v.ownBlock) : Boxed w1 B t u :=
  (h.alloc tmp).kept hg (h.not_row hte hrow)
theorem Boxed_turn {W W' : World} {row : Option Nat} {B : Nat} {t : TypeId} {v : Value} (h : Boxed W B t v) (hg : W.grownBy W' row) (hr : ∀ r, row = some r → ∃ o : Obj, W.heap[r]? = some o ∧ o.isCells = false) : Boxed W' B t v :=
  h.kept hg (fun e => by obtain ⟨o, ho, hc⟩ := hr B e.symm; rw [show W.heap[B]? = _ from h] at ho; cases ho; cases hc)
theorem Row_turn {W W' : World} {row : Option Nat} {base size n : Nat} {e : TypeId} {v : Value} {xs : List Value} (h : W.ownsRow base e size v n xs) (hg : W.grownBy W' row) (hr : ∀ r, row = some r → ∃ o : Obj, W.heap[r]? = some o ∧ o.isCells = false) : W'.ownsRow base e size v n xs := by
  refine h.kept hg ?_
  rcases h.2 with ⟨rfl, _⟩ | ⟨g, cap, cur, rfl, _, hgb, _⟩
  · exact .inl rfl
  · refine .inr fun e' => ?_
    obtain ⟨o, ho, hc⟩ := hr g (by simpa [Value.ownBlock] using e'.symm)
    rw [hgb] at ho; cases ho; cases hc
namespace Oid
theorem cons_snoc (pre : List A31) (x : A31) (l : List Int) (h : cons pre [] = some l) : cons (pre ++ [x]) [] = if x.1 < 0 ∨ l.length = 20 then none else some (push l x.1.toNat) := by
  rw [cons_app, h]
  rfl

theorem pre_len (pre : List A31) : ∀ l, cons pre [] = some l → l.length ≤ 20 := by
  have h : ∀ (pre : List A31) (m : List Int), m.length ≤ 20 → ∀ l, cons pre m = some l → l.length ≤ 20 := by
    intro pre
    induction pre with
    | nil => intro m hm l hl; cases hl; exact hm
    | cons x xs ih =>
      intro m hm l hl
      unfold cons at hl
      by_cases h : x.1 < 0 ∨ m.length = 20
      · rw [if_pos h] at hl; cases hl
      · rw [if_neg h] at hl
        refine ih _ ?_ l hl
        rw [push_len]
        have : m.length ≠ 20 := fun h9 => h (Or.inr h9)
        split <;> omega
  exact h pre [] (by simp)
/-- stores into two boxes of other types -/
theorem Boxed_row2 {W : World} {base n b b' : Nat} {e t t' : TypeId} {v u u' : Value} {xs : List Value} (h : W.ownsRow base e 1 v n xs) (h1 : Boxed W b t u) (h2 : Boxed W b' t' u') (ht : t ≠ e) (ht' : t' ≠ e) (x x' : Value) (hne : b' ≠ b) :
    ((W.setCell ⟨b, 0, none⟩ x).setCell ⟨b', 0, none⟩ x').ownsRow base e 1 v n xs := by
  have s1 : (W.setCell ⟨b, 0, none⟩ x).ownsRow base e 1 v n xs := h.kept (grownBy_setCell' W b x) (.inr (h1.not_row ht h).symm)
  exact s1.kept (grownBy_setCell' _ b' x') (.inr ((h2.other hne x).not_row ht' s1).symm)
end Oid
end Go.Proofs.YtddlaafpianjbaaDoor

/- Package oid: Parse. -/
namespace Go.Proofs.YtddlaafpianjbaaDoor
open Go.RowKit Go.Shelf
attribute [local go_sem] Oper.semAt_some
namespace Oid

/-- a part -/
abbrev AP := { s : ByteArray // s.size ≤ 1000000 }
theorem spl_le (c : List UInt8) : ∀ cur, ∀ p ∈ spl cur c, p.length ≤ cur.length + c.length := by
  induction c with
  | nil => intro cur p hp; simp [spl] at hp; subst hp; simp
  | cons c cs ih =>
    intro cur p hp
    unfold spl at hp
    by_cases h : c = 46
    · rw [if_pos h] at hp
      simp only [List.mem_cons] at hp
      rcases hp with rfl | hp
      · simp
      · have := ih [] p hp; simp at this ⊢; omega
    · rw [if_neg h] at hp
      have := ih _ p hp; simp at this ⊢; omega
theorem parts_list (t : ByteArray) (hm : t.size ≤ 1000000) : ∃ T : List AP, T.map (fun x => x.1.data.toList) = spl [] t.data.toList := by
  have h : ∀ ps : List (List UInt8), (∀ p ∈ ps, p.length ≤ 1000000) → ∃ T : List AP, T.map (fun x => x.1.data.toList) = ps := by
    intro ps
    induction ps with
    | nil => intro _; exact ⟨[], rfl⟩
    | cons p ps ih =>
      intro hp
      obtain ⟨T, hT⟩ := ih fun q hq => hp q (by simp [hq])
      exact ⟨⟨bs p, hp p (by simp)⟩ :: T, by rw [List.map_cons, hT]; rfl⟩
  exact h _ fun p hp => by
    have := spl_le t.data.toList [] p hp
    have h9 : t.data.toList.length = t.size := rfl
    simp at this; omega
theorem spl_take (l : List UInt8) : ∀ (k : Nat) (cur : List UInt8), Cut.At l 46 k → spl cur l = (cur ++ l.take k) :: spl [] (l.drop (k + 1)) := by
  induction l with
  | nil => intro k cur h; have := h.1; simp at this
  | cons c l ih =>
    intro k cur h
    cases k with
    | zero =>
      have hc : c = 46 := by have := h.1; simpa using this
      rw [spl_dot _ _ _ hc]; simp
    | succ k =>
      have hc : c ≠ 46 := fun h2 => h.2 0 (by omega) (by rw [h2]; rfl)
      rw [spl_chr _ _ _ hc, ih k _ ⟨by have := h.1; simpa using this, fun j hj => by have := h.2 (j + 1) (by omega); simpa using this⟩]
      simp
theorem spl_no (l : List UInt8) (h : (46 : UInt8) ∉ l) : spl [] l = [l] := by
  have := spl_app l [] h []
  rw [List.append_nil] at this
  rw [this]; rfl
theorem at_or (l : List UInt8) : (∃ k, Cut.At l 46 k) ∨ (46 : UInt8) ∉ l := by
  induction l with
  | nil => right; simp
  | cons c l ih =>
    by_cases hc : c = 46
    · exact Or.inl ⟨0, by rw [hc]; rfl, fun j hj => by omega⟩
    · rcases ih with ⟨k, h⟩ | h
      · refine Or.inl ⟨k + 1, by simpa using h.1, fun j hj => ?_⟩
        cases j with
        | zero => simpa using hc
        | succ j => simpa using h.2 j (by omega)
      · exact Or.inr (by simp only [List.mem_cons, not_or]; exact ⟨fun h2 => hc h2.symm, h⟩)
def boxN (Bn : Nat) (w : World) : Nat := match w.cell? ⟨Bn, 0, none⟩ with
  | some (.string s) => s.size
  | _ => 0
theorem boxN_of {W : World} {Bn : Nat} {t : TypeId} {s : ByteArray} (h : Boxed W Bn t (.string s)) : boxN Bn W = s.size := by unfold boxN; rw [h.cell]
theorem stp_below {Bn : Nat} {X Y : World} (h : Below X.heap.size X Y) : Stp Bn X Y := .more Y ⟨h.os, h.tape, h.output, h.size, fun k hk _ => h.block k hk⟩

end Oid
end Go.Proofs.YtddlaafpianjbaaDoor

/- Package oid: Parse, by its iterator. -/
namespace Go.Proofs.YtddlaafpianjbaaDoor
open Go.RowKit Go.Shelf
attribute [local go_sem] Oper.semAt_some
namespace Oid
theorem pp_app (ps qs : List (List UInt8)) : ∀ l : List Int, pp (ps ++ qs) l = (pp ps l).bind (pp qs) := by
  induction ps with
  | nil => intro l; rfl
  | cons p ps ih =>
    intro l
    rw [List.cons_append]
    unfold pp
    by_cases h : unB p = false ∨ l.length = 20
    · rw [if_pos h, if_pos h]; rfl
    · rw [if_neg h, if_neg h]; exact ih _
theorem pp_len (ps : List (List UInt8)) : ∀ l m : List Int, l.length ≤ 20 → pp ps l = some m → m.length ≤ 20 := by
  induction ps with
  | nil => intro l m hl h; cases h; exact hl
  | cons p ps ih =>
    intro l m hl h
    unfold pp at h
    by_cases hb : unB p = false ∨ l.length = 20
    · rw [if_pos hb] at h; cases h
    · rw [if_neg hb] at h
      have : l.length ≠ 20 := fun h9 => hb (Or.inr h9)
      exact ih _ m (by simp; omega) h
/-- the parts that came, as arcs -/
def pc (pre : List AP) : Option (List Int) := pp (pre.map fun x => x.1.data.toList) []
theorem pc_snoc (pre : List AP) (x : AP) (l : List Int) (h : pc pre = some l) : pc (pre ++ [x]) = if unB x.1.data.toList = false ∨ l.length = 20 then none else some (l ++ [unN x.1.data.toList]) := by
  unfold pc at h ⊢
  rw [List.map_append, pp_app, h]
  rfl
theorem pc_pre (pre T : List AP) (h : pre <+: T) (hn : pc pre = none) : pc T = none := by
  obtain ⟨t, rfl⟩ := h
  unfold pc at hn ⊢
  rw [List.map_append, pp_app, hn]; rfl
theorem keeps_below {W W' : World} (h : Below W.heap.size W W') : KeepsOthers W W' :=
  KeepsOthers.of_grownBy (row := none) ⟨h.os, h.tape, h.output, h.size, fun k hk _ => h.block k hk⟩ (fun j o e => by cases e)
end Oid
end Go.Proofs.YtddlaafpianjbaaDoor

/- Layer 17: calls that are handed names, and what the laws call awake. -/
namespace Go.Proofs.YtddlaafpianjbaaDoor
open Go.RowKit
theorem IntsS.r {w : World} {v : Value} {xs : List Int} (h : IntsS w v xs) : IntsR w v xs := by
  obtain ⟨A, c, hv, h1, h2⟩ := h.slice
  refine ⟨Nat.le_trans h1 h2, A, c, hv, ?_⟩
  by_cases h0 : xs.length = 0
  · exact Or.inl (List.eq_nil_of_length_eq_zero h0)
  · obtain ⟨b, o, c', hv', _, _, hlt, hc⟩ := h.form (by omega)
    rw [hv] at hv'
    obtain ⟨rfl, -, -⟩ := Value.slice.inj hv'
    refine Or.inr ⟨⟨b, o, none⟩, rfl, hlt, fun i hi => ?_⟩
    have hadd : (⟨b, o, none⟩ : Addr).add i = ⟨b, o + i, none⟩ := by unfold Addr.add; split <;> simp_all
    rw [hadd]; exact hc i hi
namespace Oid
def RdII (f : Nat) (a b : List Int) (v : Value) : Prop := ∀ w x y, IntsS w x a → IntsS w y b → Calls Tryd.prog f #[x, y] w fun e w' => e = .returned v ∧ Below w.heap.size w w'
set_option maxRecDepth 100000 in
theorem RdII.calls {f : Nat} {a b : List Int} {v x y : Value} (h : RdII f a b v) {W0 w : World} (hs : Since W0 w) (hx : IntsS w x a) (hy : IntsS w y b) {R : Ending → World → Prop} (k : ∀ w', Since W0 w' → R (.returned v) w') : Calls Tryd.prog f #[x, y] w R :=
  (h w x y hx hy).mono fun _ _ ⟨he, hb⟩ => by subst he; exact k _ (hs.step hb)
set_option maxRecDepth 100000 in
theorem RdII.calls0 {f : Nat} {a b : List Int} {v x y : Value} (h : RdII f a b v) {w : World} (hx : IntsS w x a) (hy : IntsS w y b) {R : Ending → World → Prop} (k : ∀ w', Since w w' → R (.returned v) w') : Calls Tryd.prog f #[x, y] w R :=
  (h w x y hx hy).mono fun _ _ ⟨he, hb⟩ => by subst he; exact k _ hb
set_option maxRecDepth 100000 in
theorem RdI.calls0 {f : Nat} {xs : List Int} {v x : Value} (h : RdI f xs v) {w : World} (hx : IntsS w x xs) {R : Ending → World → Prop} (k : ∀ w', Since w w' → R (.returned v) w') : Calls Tryd.prog f #[x] w R :=
  (h w x hx).mono fun _ _ ⟨he, hb⟩ => by subst he; exact k _ hb
/-- the contents of arcs, none where they may not be -/
def encS (xs : List Int) : ByteArray := if Ok xs then bs (enc xs) else ⟨#[]⟩
def txtS (xs : List Int) : ByteArray := if Ok xs then bs (txt xs) else ⟨#[]⟩
def aw1 : List Int := [1, 2, 840, 10045, 2, 1]
def aw1E : ByteArray := ⟨#[42, 134, 72, 206, 61, 2, 1]⟩
theorem aw1_ok : Ok aw1 := by unfold aw1 Ok; decide
theorem aw1_enc : aw1E = encS aw1 := by
  rw [encS, if_pos aw1_ok, pd_enc2 [42, 134, 72, 206, 61, 2, 1] aw1 (by decide)]; rfl
def aw2 : List Int := [2, 999]
theorem aw2_ok : Ok aw2 := by unfold aw2 Ok; decide
theorem aw2_dec : aw2 = decL [136, 55] ∧ true = decB [136, 55] := by
  have h := dec_some [136, 55] aw2 (by decide) aw2_ok
  exact ⟨h.1.symm, h.2.symm⟩
theorem aw2_txt : (⟨#[50, 46, 57, 57, 57]⟩ : ByteArray) = txtS aw2 := by
  rw [txtS, if_pos aw2_ok]
  apply ba_ext
  rw [list_bs]
  decide +kernel
end Oid
end Go.Proofs.YtddlaafpianjbaaDoor
