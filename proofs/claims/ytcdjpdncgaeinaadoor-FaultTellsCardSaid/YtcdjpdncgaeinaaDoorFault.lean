/- Package fault: what its two tables hold, out of a row's condition. -/
import Derived.Test.YtcdjpdncgaeinaaDoorBase
import Derived.Test.YtcdjpdncgaeinaaDoorStr
import Derived.Lib.LaidTab
import Derived.LaidMore
namespace Go.Proofs.YtcdjpdncgaeinaaDoor
open Go.RowKit
namespace Fault

def strD {H : Type} (zs : List (List UInt8)) : DataW H := .agg (zs.map fun z => .lit (.string z))
/-- an array of strings that reads as a table holds its strings, cell for cell -/
theorem cells_of_strs {H : Type} {enc : TypeId × Value → H} {P : Program} {w : World} {base : Nat} {sp : Nat → Bool} {held : Bool} {fuel : Nat} {t e : TypeId} {n : Nat} {cs : List Value} {zs : List (List UInt8)} {p : List MemPlace}
    (ht : P.underlying t = some (.array n e)) (he : P.underlying e = some .string) (hce : P.cellsOf e = 1) (hct : P.cellsOf t = n)
    (h : DataW.trod enc P w base sp held fuel t cs = some (strD zs, p)) : cs = zs.map fun z => Value.string (bs z) := by
  cases fuel with
  | zero => simp [DataW.trod] at h
  | succ fuel =>
    simp only [DataW.trod, ht, hce, hct, Nat.mul_one] at h
    split at h
    · rename_i hl
      obtain ⟨xs, hm, hx⟩ := Option.map_eq_some_iff.1 h
      have hxs : xs.map (·.1) = zs.map fun z => (DataW.lit (.string z) : DataW H) := by
        have := congrArg Prod.fst hx
        simpa [strD] using this
      have hxl : xs.length = n := by simpa using Lib.mapM_length hm
      have hzl : zs.length = n := by
        have := congrArg List.length hxs
        simp at this
        omega
      apply List.ext_getElem?
      intro i
      by_cases hi : i < n
      · obtain ⟨b, hb, hf⟩ := Lib.mapM_at hm i i (by simp [hi])
        obtain ⟨z, hc, rfl, _⟩ := DataW.trod_string he hf
        have h1 : cs[i]? = some (.string z) := by
          have := congrArg (·[0]?) hc
          simpa [List.getElem?_take, List.getElem?_drop] using this
        have h2 : (xs.map (·.1))[i]? = some (DataW.lit (.string z.data.toList) : DataW H) := by simp [hb]
        rw [hxs] at h2
        simp only [List.getElem?_map, Option.map_eq_some_iff, DataW.lit.injEq, Lit.string.injEq] at h2
        obtain ⟨z', hz', h3⟩ := h2
        have h4 : bs z' = z := by rw [h3]; exact bs_list z
        simp [h1, hz', h4]
      · rw [List.getElem?_eq_none (by omega), List.getElem?_eq_none (by simp; omega)]
    · cases h
/-- the strings, the integers that a table's datum lists -/
def strsOf {H : Type} : DataW H → List (List UInt8)
  | .agg ds => ds.map fun d => match d with | .lit (.string l) => l | _ => []
  | _ => []
def intsOf {H : Type} : DataW H → List Int
  | .agg ds => ds.map fun d => match d with | .lit (.int _ n) => n | _ => 0
  | _ => []
def tabN : List (List UInt8) := strsOf (Rows.laid_claviger_fault_names (H := Unit))
def tabC : List Int := intsOf (Rows.laid_claviger_fault_classes (H := Unit))
theorem tabN_d : (Rows.laid_claviger_fault_names (H := Unit)) = strD tabN := rfl
theorem tabC_d : (Rows.laid_claviger_fault_classes (H := Unit)) = Lib.tabData .i64 tabC := rfl
theorem tabN_len : tabN.length = 18 := rfl
theorem tabC_len : tabC.length = 18 := rfl
theorem gN : Tryd.prog.globalNamed "claviger/fault.names" = some 0 := by kernel_rfl
theorem gC : Tryd.prog.globalNamed "claviger/fault.classes" = some 1 := by kernel_rfl
theorem tN : (Tryd.prog.globals[0]?).map (·.type) = some 42 := by kernel_rfl
theorem tC : (Tryd.prog.globals[1]?).map (·.type) = some 45 := by kernel_rfl
/-- the two tables stand where the program lays them -/
def Tabs (W : World) : Prop := (∀ i, i < 18 → W.cell? ⟨0, i, none⟩ = some (.string (bs (tabN.getD i [])))) ∧ ∀ i, i < 18 → W.cell? ⟨1, i, none⟩ = some (.int .i64 (tabC.getD i 0))
theorem tabs_of {W : World} (h : laidMetH Tryd.prog [("claviger/fault.names", Rows.laid_claviger_fault_names), ("claviger/fault.classes", Rows.laid_claviger_fault_classes)] W) : Tabs W := by
  rw [MakeChecks.laidMetH_plain _ _ _ (by kernel_rfl)] at h
  obtain ⟨ps, ⟨g0, t0, cs0, f0, p0, q0, hg0, ht0, hv0, hd0, ⟨g1, t1, cs1, f1, p1, q1, hg1, ht1, hv1, hd1, _, _⟩, _⟩, _, _⟩ := h
  obtain rfl := Option.some.inj (gN.symm.trans hg0)
  obtain rfl := Option.some.inj (gC.symm.trans hg1)
  obtain rfl := Option.some.inj (tN.symm.trans ht0)
  obtain rfl := Option.some.inj (tC.symm.trans ht1)
  rw [tabN_d] at hd0
  rw [tabC_d] at hd1
  have e0 := cells_of_strs Tryd.underlying42 Tryd.underlying9 (by kernel_rfl) (by kernel_rfl) hd0
  have e1 := Lib.cells_of_tab Tryd.underlying45 Tryd.underlying3 (by kernel_rfl) (by kernel_rfl) hd1
  refine ⟨fun i hi => ?_, fun i hi => ?_⟩
  · have h9 := World.var?_cell hg0 hv0 i
    rw [← Array.getElem?_toList, e0] at h9
    simp [List.getD, List.getElem?_eq_getElem (show i < tabN.length from hi)] at h9 ⊢
    exact h9
  · have h9 := World.var?_cell hg1 hv1 i
    rw [← Array.getElem?_toList, e1] at h9
    simp [List.getD, List.getElem?_eq_getElem (show i < tabC.length from hi)] at h9 ⊢
    exact h9
theorem Tabs.size {W : World} (h : Tabs W) : 1 < W.heap.size := block_lt_of_cell (h.2 0 (by decide))
theorem Tabs.below {W W' : World} {n : Nat} (h : Tabs W) (hb : Below n W W') (hn : 1 < n) : Tabs W' :=
  ⟨fun i hi => (hb.cell (p := ⟨0, i, none⟩) (by show 0 < n; omega)).trans (h.1 i hi), fun i hi => (hb.cell (p := ⟨1, i, none⟩) hn).trans (h.2 i hi)⟩
/-- a call that makes memory at most, where the tables stand -/
def KMak (f : Nat) (args : Array Value) (v : Value) : Prop := ∀ w, Tabs w → Calls Tryd.prog f args w fun e w' => e = .returned v ∧ Below w.heap.size w w'
theorem Mak.k {f : Nat} {args : Array Value} {v : Value} (h : Mak f args v) : KMak f args v := fun w _ => h w
theorem KMak.calls {f : Nat} {args : Array Value} {v : Value} (h : KMak f args v) {W0 w : World} (hT : Tabs W0) (hs : Since W0 w) {R : Ending → World → Prop} (k : ∀ w', Since W0 w' → R (.returned v) w') : Calls Tryd.prog f args w R :=
  (h w (hT.below hs hT.size)).mono fun _ _ ⟨he, hb⟩ => by subst he; exact k _ (hs.step hb)

set_option maxHeartbeats 1000000 in
theorem known_ret (e : Int) (B : Bool) (hB : B = decide (0 ≤ e ∧ e < 18)) : Ret 25 #[.int .i64 e] (.bool B) := by
  intro w
  by_cases h : 0 ≤ e ∧ e < 18
  · rw [decide_eq_true h] at hB
    subst hB
    obtain ⟨h1, h2⟩ := h
    go_enter Tryd.func25, Tryd.ntmps25
    go_wp2_with fail
    go_ret
    exact ⟨rfl, rfl⟩
  · rw [decide_eq_false h] at hB
    subst hB
    by_cases h1 : 0 ≤ e
    · have h2 : ¬ e < 18 := fun h2 => h ⟨h1, h2⟩
      clear h
      go_enter Tryd.func25, Tryd.ntmps25
      go_wp2_with fail
      go_ret
      exact ⟨rfl, rfl⟩
    · clear h
      go_enter Tryd.func25, Tryd.ntmps25
      go_wp2_with fail
      go_ret
      exact ⟨rfl, rfl⟩

set_option maxHeartbeats 1000000 in
theorem name_in (e : Nat) (he : e < 18) (X : ByteArray) (hX : X = bs (tabN.getD e [])) : KMak 9 #[.int .i64 (e : Int)] (.string X) := by
  intro w hT
  have c1 := known_ret (e : Int) true (by rw [decide_eq_true (by omega)])
  have hc := hT.1 e he
  rw [← hX] at hc
  have hei : (e : Int) < 18 := by omega
  clear hX hT
  go_enter Tryd.func9, Tryd.ntmps9
  go_wp2_with fail
  refine (c1).calls ?_
  go_wp2_with fail
  go_ret
  exact ⟨rfl, Below.refl _ _⟩
theorem name_out (e : Int) (he : ¬ (0 ≤ e ∧ e < 18)) : KMak 9 #[.int .i64 e] (.string ⟨#[]⟩) := by
  intro w _
  have c1 := known_ret e false (by rw [decide_eq_false he])
  go_enter Tryd.func9, Tryd.ntmps9
  go_wp2_with fail
  refine (c1).calls ?_
  go_wp2_with fail
  go_ret
  exact ⟨rfl, Below.refl _ _⟩
set_option maxHeartbeats 1000000 in
theorem class_in (e : Nat) (he : e < 18) (c : Int) (hc : c = tabC.getD e 0) : KMak 11 #[.int .i64 (e : Int)] (.int .i64 c) := by
  intro w hT
  have c1 := known_ret (e : Int) true (by rw [decide_eq_true (by omega)])
  have hcc := hT.2 e he
  rw [← hc] at hcc
  have hei : (e : Int) < 18 := by omega
  clear hc hT
  go_enter Tryd.func11, Tryd.ntmps11
  go_wp2_with fail
  refine (c1).calls ?_
  go_wp2_with fail
  go_ret
  exact ⟨rfl, Below.refl _ _⟩
theorem class_out (e : Int) (he : ¬ (0 ≤ e ∧ e < 18)) : KMak 11 #[.int .i64 e] (.int .i64 (-1)) := by
  intro w _
  have c1 := known_ret e false (by rw [decide_eq_false he])
  go_enter Tryd.func11, Tryd.ntmps11
  go_wp2_with fail
  refine (c1).calls ?_
  go_wp2_with fail
  go_ret
  exact ⟨rfl, Below.refl _ _⟩
end Fault
end Go.Proofs.YtcdjpdncgaeinaaDoor
