/- Joined texts. -/
-- PACK: YtgfdomdbjiflmaaDoorArrEq
import Derived.Test.YtgfdomdbjiflmaaDoorDj4
import Derived.Laws.StructEq

/- Arrays of integers, compared. -/
namespace Go.Proofs.YtgfdomdbjiflmaaDoor
open Go.RowKit
section
variable {P : Program} (w : World)
theorem run_eqArr_list (d : Nat) (e : TypeId) (len : Nat) (k : IntKind) (X Y : Array Value) (x y : Nat → Int) (he : P.underlying e = some (.int k))
    (ha : ∀ w, (isAgg e).run P w = .ok false w) (hX : ∀ i, i < len → X[i]? = some (.int k (x i))) (hY : ∀ i, i < len → Y[i]? = some (.int k (y i))) (L : List Nat) (hL : ∀ i ∈ L, i < len) :
    Sem.run P (forIn L ((none : Option Bool), ()) fun i __s => do
            let a ← part e X (i * 1)
            let b ← part e Y (i * 1)
            let c ← Op.equalIn (d + 1) e a b
            if (!c) = true then pure (ForInStep.done (some false, ())) else pure (ForInStep.yield (none, ()))) w = .ok (if (L.all fun i => x i == y i) = true then (none, ()) else (some false, ())) w := by
  induction L with
  | nil => simp
  | cons i L ih =>
    have hi := hL i (by simp)
    have h1 : ∀ Z : Array Value, ∀ z, Z[i]? = some z → (part e Z (i * 1)).run P w = .ok z w := fun Z z hz => by
      unfold part
      simp [ha, hz]
    simp only [List.forIn_cons, Sem.run_bind, h1 X _ (hX i hi), h1 Y _ (hY i hi), Result.andThen_ok, run_equalIn_int w d e k k _ _ he, List.all_cons]
    have h2 := ih (fun j hj => hL j (by simp [hj]))
    by_cases hc : x i = y i
    · have hb : (x i == y i) = true := beq_iff_eq.2 hc
      simp only [hb, Bool.not_true, Bool.false_eq_true, if_false, Sem.run_pure, Result.andThen_ok, Bool.true_and]
      exact h2
    · have hb : (x i == y i) = false := beq_eq_false_iff_ne.2 hc
      simp [hb]
theorem run_equalIn_array (d : Nat) (t e : TypeId) (len : Nat) (k : IntKind) (X Y : Array Value) (x y : Nat → Int) (ht : P.underlying t = some (.array len e)) (he : P.underlying e = some (.int k))
    (hs : ∀ w, (Go.sizeOf e).run P w = .ok 1 w) (ha : ∀ w, (isAgg e).run P w = .ok false w) (hX : ∀ i, i < len → X[i]? = some (.int k (x i))) (hY : ∀ i, i < len → Y[i]? = some (.int k (y i))) :
    (Op.equalIn (d + 2) t (.agg X) (.agg Y)).run P w = .ok ((List.range len).all fun i => x i == y i) w := by
  rw [Op.equalIn]
  simp only [Sem.run_bind, run_underlying ht, Result.andThen_ok, hs]
  have hr : List.range' 0 len 1 = List.range len := List.range_eq_range'.symm
  first
    | rw [Std.Legacy.Range.forIn_eq_forIn_range']
    | rw [Std.Range.forIn_eq_forIn_range']
  simp only [Std.Legacy.Range.size, Nat.sub_zero, Nat.div_one, Nat.add_one_sub_one]
  rw [hr, run_eqArr_list w d e len k X Y x y he ha hX hY _ (fun i hi => List.mem_range.1 hi)]
  by_cases hc : ((List.range len).all fun i => x i == y i) = true
  · rw [if_pos hc, hc]; simp
  · rw [if_neg hc, Bool.eq_false_iff.2 hc]; simp
end
end Go.Proofs.YtgfdomdbjiflmaaDoor
