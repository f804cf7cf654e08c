/- Joined texts. -/
-- PACK: YtjpjfdmcijleoaaTab
import Derived.Test.YtjpjfdmcijleoaaTr3
import Derived.Test.YtjpjfdmcijleoaaTr2
import Derived.Lib.LaidTab
import Derived.LaidMore
import Derived.OpenShut
import Derived.Deep.MidRow
import Derived.Deep.Fields
import Derived.Lib.SmallJoins

/- Tables that stand in package variables: arrays of structs of one-cell fields. -/
namespace Go.Proofs.Ytjpjfdmcijleoaa
open Go.RowKit

/-- calls that are made while K holds: they make memory at most -/
def KMk (K : World → Prop) (f : Nat) (args : Array Value) (v : Value) : Prop := ∀ w, K w → Calls Try.prog f args w fun e w' => e = .returned v ∧ Below w.heap.size w w'
/-- what holds goes on to hold -/
class Kp (K : World → Prop) : Prop where
  keep : ∀ {w w' : World}, K w → Below w.heap.size w w' → K w'
set_option maxRecDepth 100000 in
theorem KMk.calls {K : World → Prop} [Kp K] {f : Nat} {args : Array Value} {v : Value} (h : KMk K f args v) {W0 w : World} (hT : K W0) (hs : Since W0 w) {R : Ending → World → Prop} (k : ∀ w', Since W0 w' → R (.returned v) w') : Calls Try.prog f args w R :=
  (h w (Kp.keep hT hs)).mono fun _ _ ⟨he, hb⟩ => by subst he; exact k _ (hs.step hb)
set_option maxRecDepth 100000 in
theorem KMk.calls0 {K : World → Prop} {f : Nat} {args : Array Value} {v : Value} (h : KMk K f args v) {w : World} (hT : K w) {R : Ending → World → Prop} (k : ∀ w', Below w.heap.size w w' → R (.returned v) w') : Calls Try.prog f args w R :=
  (h w hT).mono fun _ _ ⟨he, hb⟩ => by subst he; exact k _ hb
theorem Mak.k {K : World → Prop} {f : Nat} {args : Array Value} {v : Value} (h : Mak f args v) : KMk K f args v := fun w _ => h w
theorem Ret.k {K : World → Prop} {f : Nat} {args : Array Value} {v : Value} (h : Ret f args v) : KMk K f args v := h.mak.k
theorem KMk.weak {K K2 : World → Prop} {f : Nat} {args : Array Value} {v : Value} (h : KMk K f args v) (hk : ∀ w, K2 w → K w) : KMk K2 f args v := fun w hw => h w (hk w hw)
instance Kp.and {K K2 : World → Prop} [Kp K] [Kp K2] : Kp (fun w => K w ∧ K2 w) := ⟨fun h hb => ⟨Kp.keep h.1 hb, Kp.keep h.2 hb⟩⟩

theorem lit_str {H : Type} {enc : TypeId × Value → H} {P : Program} {w : World} {base : Nat} {sp : Nat → Bool} {held : Bool} {m : Nat} {t : TypeId} {cs : List Value} {l : List UInt8} {p : List MemPlace} (ht : P.underlying t = some .string)
    (h : DataW.trod enc P w base sp held m t cs = some (.lit (.string l), p)) : cs = [.string (bs l)] := by
  obtain ⟨z, e0, e1, _⟩ := DataW.trod_string ht h
  simp only [Prod.mk.injEq, DataW.lit.injEq, Lit.string.injEq] at e1
  rw [e0, e1.1, bs_list]
theorem lit_int {H : Type} {enc : TypeId × Value → H} {P : Program} {w : World} {base : Nat} {sp : Nat → Bool} {held : Bool} {m : Nat} {t : TypeId} {cs : List Value} {k k' : IntKind} {n : Int} {p : List MemPlace} (ht : P.underlying t = some (.int k))
    (h : DataW.trod enc P w base sp held m t cs = some (.lit (.int k' n), p)) : cs = [.int k n] := by
  obtain ⟨z, e0, e1, _⟩ := DataW.trod_int ht h
  simp only [Prod.mk.injEq, DataW.lit.injEq, Lit.int.injEq] at e1
  rw [e0, e1.1.2]
/-- a struct of one-cell fields, cell for cell -/
theorem struct_fields {H : Type} {enc : TypeId × Value → H} {P : Program} {w : World} {base : Nat} {sp : Nat → Bool} {held : Bool} {m : Nat} {t : TypeId} {fs : Array Field} {cs : List Value} {ds : List (DataW H)} {p : List MemPlace} (ht : P.underlying t = some (.struct fs)) (hone : Go.Deep.oneCellFields P fs = true) (hC : P.cellsOf t = fs.size)
    (h : DataW.trod enc P w base sp held m t cs = some (.agg ds, p)) : cs.length = fs.size ∧ ∀ (i : Nat) (f : Go.Field) (d : DataW H) (v : Value), fs[i]? = some f → ds[i]? = some d → cs[i]? = some v → ∃ n q, DataW.trod enc P w base sp held n f.type [v] = some (d, q) := by
  obtain ⟨xs, n, _, hx, hl, hlen, hf⟩ := DataW.trod_struct ht h
  simp only [Prod.mk.injEq, DataW.agg.injEq] at hx
  refine ⟨hl.trans hC, fun i f d v h1 h2 h3 => ?_⟩
  have h4 := hf i f h1
  obtain ⟨o0, k0⟩ := Go.Deep.hone_of hone i f h1
  rw [o0, k0] at h4
  obtain ⟨hi, h5⟩ := List.getElem?_eq_some_iff.1 h3
  have h6 : (cs.drop i).take 1 = [v] := by
    rw [List.drop_eq_getElem_cons hi, h5]; rfl
  rw [h6] at h4
  rw [hx.1, List.getElem?_map, Option.map_eq_some_iff] at h2
  obtain ⟨y, hy, hyd⟩ := h2
  refine ⟨n, y.2, ?_⟩
  rw [h4, hy, ← hyd]
/-- a table's cells, row for row -/
theorem tab_cells {H : Type} {enc : TypeId × Value → H} {P : Program} {w : World} {base : Nat} {sp : Nat → Bool} {held : Bool} {fuel : Nat} {t e : TypeId} {n k : Nat} {cs : List Value} {α : Type} (rows : List α) (g : α → DataW H) (f : α → List Value) {p : List MemPlace}
    (ht : P.underlying t = some (.array n e)) (hk : P.cellsOf e = k)
    (hrow : ∀ m cs p a, DataW.trod enc P w base sp held m e cs = some (g a, p) → cs = f a)
    (h : DataW.trod enc P w base sp held fuel t cs = some (.agg (rows.map g), p)) : ∀ i a, rows[i]? = some a → ∀ j v, (f a)[j]? = some v → cs[i * k + j]? = some v := by
  obtain ⟨xs, m, _, hx, hl, hxl, hel⟩ := DataW.trod_array ht h
  simp only [Prod.mk.injEq, DataW.agg.injEq] at hx
  intro i a hi j v hv
  have hil : i < rows.length := (List.getElem?_eq_some_iff.1 hi).1
  have hxr : xs.length = rows.length := by
    have := congrArg List.length hx.1
    simpa using this.symm
  have h2 : (xs.map (·.1))[i]? = some (g a) := by rw [← hx.1, List.getElem?_map, hi]; rfl
  rw [List.getElem?_map, Option.map_eq_some_iff] at h2
  obtain ⟨y, hy, hya⟩ := h2
  have h3 := hel i (by omega)
  rw [hk, hy] at h3
  have h4 := hrow m _ y.2 a (by rw [h3, ← hya])
  have h5 : ((cs.drop (i * k)).take k)[j]? = some v := by rw [h4]; exact hv
  rw [List.getElem?_take] at h5
  split at h5
  · rw [List.getElem?_drop] at h5
    exact h5
  · cases h5
theorem flatMap_at {α : Type} (f : α → List Value) (k : Nat) (hk : ∀ a, (f a).length = k) : ∀ (l : List α) (i : Nat) (a : α), l[i]? = some a → ∀ j, j < k → (l.flatMap f)[i * k + j]? = (f a)[j]? := by
  intro l
  induction l with
  | nil => intro i a h; simp at h
  | cons x l ih =>
    intro i a h j hj
    rw [List.flatMap_cons]
    cases i with
    | zero =>
      simp at h
      subst h
      rw [Nat.zero_mul, Nat.zero_add, List.getElem?_append_left (by rw [hk]; exact hj)]
    | succ i =>
      rw [List.getElem?_cons_succ] at h
      rw [List.getElem?_append_right (by rw [hk, Nat.succ_mul]; omega), hk, Nat.succ_mul, show i * k + k + j - k = i * k + j by omega]
      exact ih i a h j hj
/-- 'a[i]' of an array of structs of k cells -/
theorem run_index_row {P : Program} {t e : TypeId} {n k : Nat} (ht : P.underlying t = some (.array n e)) (ha : ∀ w, (isAgg e).run P w = .ok true w) (hz : ∀ w, (Go.sizeOf e).run P w = .ok k w) (A : Array Value) (i : Nat) (hi : i < n) (c : Array Value)
    (h : A.extract (i * k) (i * k + k) = c) (W : World) : (Instr.index t (.agg A) (.int .i64 (i : Int))).run P W = .ok (.agg c) W := by
  subst h
  simp [Instr.index, asIntOf, run_underlying (P := P) ht W, hz, part, ha, hi]
end Go.Proofs.Ytjpjfdmcijleoaa
namespace Go
theorem wpList_load_run {P : Program} {ops : Array Oper} {w : World} {Q : Exit → Act → World → Prop} {a : Act} {rest : List Oper} (d : Option Tmp) (ty : TypeId) (x : Operand) {t : TypeId} {ps : String} {af : Array Edge} (p v : Value) (hx : a.eval x = p)
    (hrun : (Instr.loadAt ty p).run P w = .ok v w) (h : wpList P ops Q rest (a.put d v) w) : wpList P ops Q (⟨d, .load ty x, t, ps, af, none⟩ :: rest) a w :=
  wpList_plain rfl fun K hK => by
    unfold Oper.wp execOp
    simp only [hx, Sem.run_bind, hrun, Result.andThen_ok, Sem.run_pure]
    exact hK _ _ h
end Go
