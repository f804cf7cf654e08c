/- Joined texts. -/
-- PACK: YtgfdomdbjiflmaaGreatDoorJoin2
import Derived.Test.YtgfdomdbjiflmaaGreatDoorLt5
import Derived.Test.YtgfdomdbjiflmaaGreatDoorLt9

/- octets.Join of a slice of strings, by what it holds. -/
namespace Go.Proofs.YtgfdomdbjiflmaaGreatDoor
open Go.RowKit
namespace Oct

set_option maxRecDepth 100000 in
set_option maxHeartbeats 400000 in
theorem join_nil (A : Option Addr) (c : Nat) (w : World) : Calls Tryz.prog 33 #[.slice A 0 c] w fun e w' => e = .returned (.string ⟨#[]⟩) ∧ Below w.heap.size w w' := by
  have hmk : ∀ w : World, (Instr.makeSlice 86 (.int .i64 0) (.int .i64 0)).run Tryz.prog w = .ok (.slice (some ⟨w.heap.size, 0, none⟩) 0 0) (w.alloc (.cells (madeCells #[.int .u8 0] 0) 5)) := fun w =>
    run_make_row' (P := Tryz.prog) 86 5 (.int .u8 0) 1 Tryz.underlying86 info5 rfl .i64 .i64 0 (by omega) (by omega) w
  have g := run_convert_bytes_arg (P := Tryz.prog) (w.alloc (.cells (madeCells #[.int .u8 0] 0) 5)) 86 5 Tryz.underlying86 Tryz.underlying5 w.heap.size 0 0 0 [] rfl (fun i hi => by omega) 9 Tryz.underlying9
  go_enter Tryz.func33, Tryz.ntmps33
  go_wp2
  go_loop [3, 12] (fun t i => i = .int .i64 0 ∧ t = .int .i64 0) (fun _ _ => 0)
  case atStart => exact ⟨rfl, rfl⟩
  case round =>
    obtain ⟨rfl, rfl⟩ := hrel
    go_wp2
    go_loop [7, 25] (fun t i => i = .int .i64 0 ∧ t = .int .i64 0) (fun _ _ => 0)
    case atStart => exact ⟨rfl, rfl⟩
    case round =>
      obtain ⟨rfl, rfl⟩ := hrel
      go_wp2
      go_ret
      exact ⟨rfl, (Below.refl _ _).alloc (Nat.le_refl _) _⟩

set_option maxRecDepth 100000 in
theorem join_strs (w : World) (x : Value) (ss : List ByteArray) (hx : StrsR w x ss) (hm : (cat ss).length ≤ 140737488355328) (hl : ss.length ≤ 140737488355328) :
    Calls Tryz.prog 33 #[x] w fun e w' => e = .returned (.string (bs (cat ss))) ∧ Below w.heap.size w w' := by
  obtain ⟨m1, A1, c1, rfl, h1⟩ := hx
  rcases h1 with rfl | ⟨a1, rfl, b1, e1⟩
  · exact join_nil A1 c1 w
  · exact join_any ss a1 c1 _ _ w rfl rfl hm hl b1 e1
set_option maxRecDepth 100000 in
/-- of a literal list of texts -/
theorem join_lit (w : World) (ss : List ByteArray) (n : Nat) (hn : n = ss.length) (cells : Array Value) (hc : cells = (ss.map Value.string).toArray) (X : ByteArray) (hX : X = bs (cat ss)) (hm : X.size ≤ 140737488355328) (hl : n ≤ 1000) :
    Calls Tryz.prog 33 #[.slice (some ⟨w.heap.size, 0, none⟩) n n] (w.alloc (.cells cells 9)) fun e w' => e = .returned (.string X) ∧ Below w.heap.size w w' := by
  have hs : StrsR (w.alloc (.cells cells 9)) (.slice (some ⟨w.heap.size, 0, none⟩) n n) ss := StrsR.lit w ss n hn (by unfold maxLen; omega) cells hc 9
  subst hX
  refine (join_strs _ _ ss hs hm (by omega)).mono fun e w' ⟨he, hb⟩ => ⟨he, ?_⟩
  exact Since.step (Since.alloc (Since.refl w) _) hb
end Oct
end Go.Proofs.YtgfdomdbjiflmaaGreatDoor
