/- Joined texts. -/
-- PACK: YtjpjfdmcijleoaaStill
import Derived.Test.YtjpjfdmcijleoaaTr3
import Derived.StillTailTactics
import Derived.Laws.Tables

/- A load whose value is known, in a region that only reads ahead of its end. -/
namespace Go
theorem wpStill_load {P : Program} {ops : Array Oper} {w : World} {Q : Act → Prop} {a : Act} {rest : List Oper} (d : Option Tmp) (ty : TypeId) (x : Operand) {t : TypeId} {ps : String} {af : Array Edge} (p v : Value) (hx : a.eval x = p)
    (hrun : (Instr.loadAt ty p).run P w = .ok v w) (h : wpStill P ops w Q rest (a.put d v)) : wpStill P ops w Q (⟨d, .load ty x, t, ps, af, none⟩ :: rest) a := by
  unfold wpStill
  have hw : Region.wanted (⟨d, .load ty x, t, ps, af, none⟩ : Oper) (yielded ops a.tmps) = true := rfl
  rw [if_pos hw]
  unfold Oper.still execOp
  simp only [hx, Sem.run_bind, hrun, Result.andThen_ok, Sem.run_pure, Oper.stillUpon_value]
  exact h
theorem wpList_build_at {P : Program} {ops : Array Oper} {w : World} {Q : Exit → Act → World → Prop} {a : Act} {rest : List Oper} (d : Option Tmp) (ty : TypeId) (parts : Array (Nat × Operand)) {t : TypeId} {ps : String} {af : Array Edge} (vs : Array (Nat × Value)) (cells : Array Value)
    (hv : (parts.map fun (i, x) => (i, a.eval x)) = vs) (hc : P.built ty vs.toList = some cells) (h : wpList P ops Q rest (a.put d (.agg cells)) w) : wpList P ops Q (⟨d, .build ty parts, t, ps, af, none⟩ :: rest) a w :=
  wpList_build rfl ty parts rfl (by rw [hv, hc]; rfl) (by rw [hv, hc]; exact h)
theorem wpList_conv_at {P : Program} {ops : Array Oper} {w : World} {Q : Exit → Act → World → Prop} {a : Act} {rest : List Oper} (d : Option Tmp) (src dst : TypeId) (x : Operand) {t : TypeId} {ps : String} {af : Array Edge} (p v : Value) (w' : World) (hx : a.eval x = p)
    (hrun : (convert src dst p).run P w = .ok v w') (h : wpList P ops Q rest (a.put d v) w') : wpList P ops Q (⟨d, .convert src dst x, t, ps, af, none⟩ :: rest) a w :=
  wpList_plain rfl fun K hK => by
    unfold Oper.wp execOp
    simp only [hx, Sem.run_bind, hrun, Result.andThen_ok, Sem.run_pure]
    exact hK _ _ h
end Go
