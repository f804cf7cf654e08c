/- Joined texts. -/
-- PACK: YtddlaafpianjbaaDoorUsage12 YtddlaafpianjbaaDoorUsage13 YtddlaafpianjbaaDoorUsage14 YtddlaafpianjbaaDoorUsage15 YtddlaafpianjbaaDoorUsage16 YtddlaafpianjbaaDoorUsage17 YtddlaafpianjbaaDoorUsage18 YtddlaafpianjbaaDoorUsageAw
import Derived.Test.YtddlaafpianjbaaDoorUs25
import Derived.Test.YtddlaafpianjbaaDoorUs12

/- usage.Of: what the program collects; its memory. -/
namespace Go.Proofs.YtddlaafpianjbaaDoor
open Go.RowKit
namespace Us
open Rw RwL
/-- what the program collects for the runes rs -/
def opOf (u op : ByteArray) : ByteArray := if isK u then keyOp op else op
def allL (u : ByteArray) (rs : List Int) : List ByteArray := rs.flatMap (fun c => (grL c).map (opOf u))
theorem allL_snoc (u : ByteArray) (rs : List Int) (c : Int) : allL u (rs ++ [c]) = allL u rs ++ (grL c).map (opOf u) := by unfold allL; rw [List.flatMap_append]; simp
theorem ite_len {p : Prop} [Decidable p] {a b : List ByteArray} (ha : a.length ≤ 2) (hb : b.length ≤ 2) : (if p then a else b).length ≤ 2 := by split <;> assumption
theorem grL_len (c : Int) : (grL c).length ≤ 2 := by
  unfold grL
  repeat' apply ite_len
  all_goals simp
theorem allL_len (u : ByteArray) (rs : List Int) : (allL u rs).length ≤ 2 * rs.length := by
  induction rs with
  | nil => exact Nat.le_refl _
  | cons c l ih =>
    have h := grL_len c
    unfold allL at ih ⊢
    rw [List.flatMap_cons, List.length_append, List.length_map, List.length_cons]
    omega
/-- the row of a slice of strings -/
def sr (x : Value) (l : List ByteArray) : Row := ⟨9, 1, x, l.length, l.map Value.string⟩
/-- the loops' memory: the box of what is collected, the head's box, what is collected, a slice that is gone through; the iterator -/
structure OI (w : World) (g ga gi : Nat) (u m v e X : ByteArray) (p : Nat) (V : Value) (A : List ByteArray) (Y : List Row) (W : World) : Prop where
  rows : Rw.Rows W w.heap.size ([RwL.lone 30 ga [V], RwL.lone 24 g [.string u, .string m, .string v, .string e]] ++ ⟨9, 1, V, A.length, A.map Value.string⟩ :: Y)
  since : Since w W
  it : W.heap[gi]? = some (.stringIter X p)
section
variable {w : World} {g ga gi : Nat} {u m v e X : ByteArray} {p : Nat} {V : Value} {A : List ByteArray} {Y : List Row} {W W' : World}
theorem oi_step (hb : Since W W') (h : Hid (OI w g ga gi u m v e X p V A Y W)) : Hid (OI w g ga gi u m v e X p V A Y W') :=
  Lib.hid ⟨h.out.rows.since hb, h.out.since.step hb, (Below.block hb gi (Array.getElem?_eq_some_iff.1 h.out.it).1).trans h.out.it⟩
theorem oi_next (h : Hid (OI w g ga gi u m v e X p V A Y W)) (hg : w.heap.size ≤ gi) (q : Nat) : Hid (OI w g ga gi u m v e X q V A Y (W.iterAt gi X q)) :=
  Lib.hid ⟨rows_iter h.out.it q h.out.rows, Lib.below_iterAt h.out.since hg X q, Lib.iterAt_heap W gi X p q h.out.it⟩
theorem oi_cells (h : Hid (OI w g ga gi u m v e X p V A Y W)) : W.cell? ⟨g, 0, none⟩ = some (.string u) ∧ W.cell? ⟨g, 1, none⟩ = some (.string m) ∧ W.cell? ⟨ga, 0, none⟩ = some V := by
  have h1 := h.out.rows.own (RwL.lone 24 g [.string u, .string m, .string v, .string e]) (by simp)
  have h2 := h.out.rows.own (RwL.lone 30 ga [V]) (by simp)
  exact ⟨(lone_cell h1 0 _ rfl).1, (lone_cell h1 1 _ rfl).1, (lone_cell h2 0 _ rfl).1⟩
theorem oi_own (h : Hid (OI w g ga gi u m v e X p V A Y W)) : W.ownsRow w.heap.size 9 1 V A.length (A.map Value.string) := h.out.rows.own ⟨9, 1, V, A.length, A.map Value.string⟩ (by simp)
theorem oi_strs (h : Hid (OI w g ga gi u m v e X p V A Y W)) : StrsS W V A := SlR.own (oi_own h)
theorem oi_more {x : Value} {l : List ByteArray} (h : Hid (OI w g ga gi u m v e X p V A [sr x l] W)) : StrsS W x l := SlR.own (h.out.rows.own (sr x l) (by simp))
theorem rows_pre {base : Nat} {R Z : List Row} (h : Rw.Rows W base (R ++ Z)) : Rw.Rows W base R := ⟨fun r hr => h.own r (by simp [hr]), (List.pairwise_append.1 h.apart).1⟩
theorem oi_drop (h : Hid (OI w g ga gi u m v e X p V A Y W)) : Hid (OI w g ga gi u m v e X p V A [] W) := by
  refine Lib.hid ⟨?_, h.out.since, h.out.it⟩
  have h1 := h.out.rows
  rw [← List.singleton_append (l := Y), ← List.append_assoc] at h1
  exact rows_pre h1
/-- the collected slice grows by one, and goes back into its box -/
theorem oi_grow {V' : Value} {y : ByteArray} {W2 : World} (h : Hid (OI w g ga gi u m v e X p V A Y W)) (hr : Rw.Rows W' w.heap.size ([RwL.lone 30 ga [V], RwL.lone 24 g [.string u, .string m, .string v, .string e]] ++ ⟨9, 1, V', A.length + 1, A.map Value.string ++ [.string y]⟩ :: Y))
    (hk : KeptBut W W' V) (hr2 : Rw.Rows W2 w.heap.size ([] ++ ⟨30, 1, .slice (some ⟨ga, 0, none⟩) 1 1, 1, [V].set 0 V'⟩ :: (RwL.lone 24 g [.string u, .string m, .string v, .string e] :: ⟨9, 1, V', A.length + 1, A.map Value.string ++ [.string y]⟩ :: Y))) (hs : Since w W2) (hk2 : KeptBut W' W2 (.slice (some ⟨ga, 0, none⟩) 1 1)) :
    Hid (OI w g ga gi u m v e X p V' (A ++ [y]) Y W2) := by
  have i1 := iter_kept h.out.it hk (iter_ne h.out.it (oi_own h))
  have h2 := hr.own (RwL.lone 30 ga [V]) (by simp)
  have i2 := iter_kept i1 hk2 (iter_ne i1 h2)
  refine Lib.hid ⟨?_, hs, i2⟩
  rw [List.length_append, List.map_append]
  exact hr2
theorem oi_new (w : World) (u m v e X : ByteArray) : OI w w.heap.size (w.heap.size + 1) (w.heap.size + 1 + 1) u m v e X 0 (.slice none 0 0) [] [] (((w.alloc (.cells #[.string u, .string m, .string v, .string e] 24)).alloc (.cells #[.slice none 0 0] 30)).iter X 0) := by
  have h0 := rows_push (Rows.nil w w.heap.size) (Nat.le_refl _) [.string u, .string m, .string v, .string e] 24
  have h1 := rows_push h0 (by simp) [.slice none 0 0] 30
  have h2 := Rows.alloc (Rows.add_nil h1 9 1) (.stringIter X 0)
  have e1 : (w.alloc (.cells #[.string u, .string m, .string v, .string e] 24)).heap.size = w.heap.size + 1 := by simp
  have e2 : ((w.alloc (.cells #[.string u, .string m, .string v, .string e] 24)).alloc (.cells #[.slice none 0 0] 30)).heap.size = w.heap.size + 1 + 1 := by simp
  refine ⟨?_, ?_, ?_⟩
  · rw [← e1]; exact h2
  · exact (((Since.refl w).alloc _).alloc _).alloc _
  · rw [← e2]; exact World.iter_heap _ X 0
end
/-- a call that makes a slice of strings: a row apart from all that stand -/
def NewS (f : Nat) (args : Array Value) (ss : List ByteArray) : Prop := ∀ w, Calls Tryd.prog f args w fun r w' => ∃ x, r = .returned x ∧ Since w w' ∧ ∀ base rs, base ≤ w.heap.size → Rw.Rows w base rs → Rw.Rows w' base (rs ++ [sr x ss])
theorem rows_snoc {w : World} {base : Nat} {rs : List Row} (h : Rw.Rows w base rs) (hb : base ≤ w.heap.size) (l : List ByteArray) (h0 : l.length ≤ maxLen) (C : Array Value) (hC : C = (l.map Value.string).toArray) : Rw.Rows (w.alloc (.cells C 9)) base (rs ++ [sr (.slice (some ⟨w.heap.size, 0, none⟩) l.length l.length) l]) := by
  subst hC
  obtain ⟨ho, ha⟩ := h
  refine ⟨fun r hr => ?_, ?_⟩
  · rcases List.mem_append.1 hr with hr | hr
    · exact World.ownsRow.alloc (ho r hr) _
    · rw [List.mem_singleton.1 hr]
      refine ⟨by simp [sr], .inr ⟨w.heap.size, l.length, _, rfl, hb, heap_alloc_new w _, Nat.le_refl _, h0, by simp [sr], ?_⟩⟩
      simp [sr, ← List.map_take]
  · rw [List.pairwise_append]
    refine ⟨ha, by simp, fun r hr s hs g hg h2 => ?_⟩
    rw [List.mem_singleton.1 hs] at h2
    have h3 : g = w.heap.size := by cases h2; rfl
    have h4 := (World.ownsRow.lt (ho r hr) g hg).2
    omega
end Us
end Go.Proofs.YtddlaafpianjbaaDoor

/- usage.Of: granted's rows; the walk. -/
namespace Go.Proofs.YtddlaafpianjbaaDoor
open Go.RowKit
namespace Us
open Rw RwL
set_option maxRecDepth 100000 in
theorem gn_E : NewS 22 #[.int .i32 69] [⟨#[101, 110, 99, 114, 121, 112, 116]⟩] := by
  intro w
  go_enter Tryd.func22, Tryd.ntmps22
  go_wp2_with fail
  go_ret
  exact ⟨_, rfl, (Since.refl w).alloc _, fun base rs hb h => rows_snoc h hb [⟨#[101, 110, 99, 114, 121, 112, 116]⟩] (by decide) _ rfl⟩
set_option maxRecDepth 100000 in
theorem gn_D : NewS 22 #[.int .i32 68] [⟨#[100, 101, 99, 114, 121, 112, 116]⟩] := by
  intro w
  go_enter Tryd.func22, Tryd.ntmps22
  go_wp2_with fail
  go_ret
  exact ⟨_, rfl, (Since.refl w).alloc _, fun base rs hb h => rows_snoc h hb [⟨#[100, 101, 99, 114, 121, 112, 116]⟩] (by decide) _ rfl⟩
set_option maxRecDepth 100000 in
theorem gn_B : NewS 22 #[.int .i32 66] [⟨#[101, 110, 99, 114, 121, 112, 116]⟩, ⟨#[100, 101, 99, 114, 121, 112, 116]⟩] := by
  intro w
  go_enter Tryd.func22, Tryd.ntmps22
  go_wp2_with fail
  go_ret
  exact ⟨_, rfl, (Since.refl w).alloc _, fun base rs hb h => rows_snoc h hb [⟨#[101, 110, 99, 114, 121, 112, 116]⟩, ⟨#[100, 101, 99, 114, 121, 112, 116]⟩] (by decide) _ rfl⟩
set_option maxRecDepth 100000 in
theorem gn_G : NewS 22 #[.int .i32 71] [⟨#[103, 101, 110, 101, 114, 97, 116, 101]⟩] := by
  intro w
  go_enter Tryd.func22, Tryd.ntmps22
  go_wp2_with fail
  go_ret
  exact ⟨_, rfl, (Since.refl w).alloc _, fun base rs hb h => rows_snoc h hb [⟨#[103, 101, 110, 101, 114, 97, 116, 101]⟩] (by decide) _ rfl⟩
set_option maxRecDepth 100000 in
theorem gn_V : NewS 22 #[.int .i32 86] [⟨#[118, 101, 114, 105, 102, 121]⟩] := by
  intro w
  go_enter Tryd.func22, Tryd.ntmps22
  go_wp2_with fail
  go_ret
  exact ⟨_, rfl, (Since.refl w).alloc _, fun base rs hb h => rows_snoc h hb [⟨#[118, 101, 114, 105, 102, 121]⟩] (by decide) _ rfl⟩
set_option maxRecDepth 100000 in
theorem gn_C : NewS 22 #[.int .i32 67] [⟨#[103, 101, 110, 101, 114, 97, 116, 101]⟩, ⟨#[118, 101, 114, 105, 102, 121]⟩] := by
  intro w
  go_enter Tryd.func22, Tryd.ntmps22
  go_wp2_with fail
  go_ret
  exact ⟨_, rfl, (Since.refl w).alloc _, fun base rs hb h => rows_snoc h hb [⟨#[103, 101, 110, 101, 114, 97, 116, 101]⟩, ⟨#[118, 101, 114, 105, 102, 121]⟩] (by decide) _ rfl⟩
set_option maxRecDepth 100000 in
theorem gn_S : NewS 22 #[.int .i32 83] [⟨#[115, 105, 103, 110]⟩] := by
  intro w
  go_enter Tryd.func22, Tryd.ntmps22
  go_wp2_with fail
  go_ret
  exact ⟨_, rfl, (Since.refl w).alloc _, fun base rs hb h => rows_snoc h hb [⟨#[115, 105, 103, 110]⟩] (by decide) _ rfl⟩
set_option maxRecDepth 100000 in
theorem gn_T : NewS 22 #[.int .i32 84] [⟨#[100, 101, 99, 114, 121, 112, 116]⟩, ⟨#[115, 105, 103, 110]⟩] := by
  intro w
  go_enter Tryd.func22, Tryd.ntmps22
  go_wp2_with fail
  go_ret
  exact ⟨_, rfl, (Since.refl w).alloc _, fun base rs hb h => rows_snoc h hb [⟨#[100, 101, 99, 114, 121, 112, 116]⟩, ⟨#[115, 105, 103, 110]⟩] (by decide) _ rfl⟩
set_option maxRecDepth 100000 in
theorem gn_X : NewS 22 #[.int .i32 88] [⟨#[100, 101, 114, 105, 118, 101]⟩] := by
  intro w
  go_enter Tryd.func22, Tryd.ntmps22
  go_wp2_with fail
  go_ret
  exact ⟨_, rfl, (Since.refl w).alloc _, fun base rs hb h => rows_snoc h hb [⟨#[100, 101, 114, 105, 118, 101]⟩] (by decide) _ rfl⟩
set_option maxRecDepth 100000 in
theorem gn_no (c : Int) (t0 : (c == 69) = false) (t1 : (c == 68) = false) (t2 : (c == 66) = false) (t3 : (c == 71) = false) (t4 : (c == 86) = false) (t5 : (c == 67) = false) (t6 : (c == 83) = false) (t7 : (c == 84) = false) (t8 : (c == 88) = false) : NewS 22 #[.int .i32 c] [] := by
  intro w
  go_enter Tryd.func22, Tryd.ntmps22
  go_wp2_with fail
  go_ret
  exact ⟨_, rfl, Since.refl w, fun base rs hb h => Rows.add_nil h 9 1⟩
theorem gn_mk (c : Int) : NewS 22 #[.int .i32 c] (grL c) := by
  unfold grL
  by_cases h0 : c = 69
  · rw [if_pos h0, h0]; exact gn_E
  rw [if_neg h0]
  by_cases h1 : c = 68
  · rw [if_pos h1, h1]; exact gn_D
  rw [if_neg h1]
  by_cases h2 : c = 66
  · rw [if_pos h2, h2]; exact gn_B
  rw [if_neg h2]
  by_cases h3 : c = 71
  · rw [if_pos h3, h3]; exact gn_G
  rw [if_neg h3]
  by_cases h4 : c = 86
  · rw [if_pos h4, h4]; exact gn_V
  rw [if_neg h4]
  by_cases h5 : c = 67
  · rw [if_pos h5, h5]; exact gn_C
  rw [if_neg h5]
  by_cases h6 : c = 83
  · rw [if_pos h6, h6]; exact gn_S
  rw [if_neg h6]
  by_cases h7 : c = 84
  · rw [if_pos h7, h7]; exact gn_T
  rw [if_neg h7]
  by_cases h8 : c = 88
  · rw [if_pos h8, h8]; exact gn_X
  rw [if_neg h8]
  exact gn_no c (beq_eq_false_iff_ne.2 h0) (beq_eq_false_iff_ne.2 h1) (beq_eq_false_iff_ne.2 h2) (beq_eq_false_iff_ne.2 h3) (beq_eq_false_iff_ne.2 h4) (beq_eq_false_iff_ne.2 h5) (beq_eq_false_iff_ne.2 h6) (beq_eq_false_iff_ne.2 h7) (beq_eq_false_iff_ne.2 h8)
set_option maxRecDepth 100000 in
theorem tS_one : (Tryd.prog.info? 30).map (·.size) = some 1 := by kernel_rfl
/-- what slices.DeleteFunc makes of Ops, where the closure has what is collected in its box -/
def DelOf : Prop := ∀ (w : World) (ga : Nat) (V : Value) (l : List ByteArray) (t : TypeId), ga < w.heap.size → w.cell? ⟨ga, 0, none⟩ = some V → StrsS w V l →
  Calls Tryd.prog 24 #[.slice (some ⟨w.heap.size, 0, none⟩) 8 8, .func (.func 25) #[] #[.pointer (some ⟨ga, 0, none⟩)]] (w.alloc (.cells opsA t)) fun e w' => ∃ x, e = .returned x ∧ StrsS w' x (ops.filter (fun op => memB op l)) ∧ Since w w'
theorem oi_lt {w : World} {g ga gi : Nat} {u m v e X : ByteArray} {p : Nat} {V : Value} {A : List ByteArray} {Y : List Row} {W : World} (h : Hid (OI w g ga gi u m v e X p V A Y W)) : ga < W.heap.size :=
  (Array.getElem?_eq_some_iff.1 (lone_heap (h.out.rows.own (RwL.lone 30 ga [V]) (by simp)))).1
theorem oi_new2 (w w1 : World) (u m v e X : ByteArray) (h : Since (w.alloc (.cells #[.string u, .string m, .string v, .string e] 24)) w1) : OI w w.heap.size w1.heap.size (w1.heap.size + 1) u m v e X 0 (.slice none 0 0) [] [] ((w1.alloc (.cells #[.slice none 0 0] 30)).iter X 0) := by
  have h0 := (rows_push (Rows.nil w w.heap.size) (Nat.le_refl _) [.string u, .string m, .string v, .string e] 24).since h
  have hs : Since w w1 := ((Since.refl w).alloc _).step h
  have h1 := rows_push h0 (Below.size hs) [.slice none 0 0] 30
  have h2 := Rows.alloc (Rows.add_nil h1 9 1) (.stringIter X 0)
  have e2 : (w1.alloc (.cells #[.slice none 0 0] 30)).heap.size = w1.heap.size + 1 := by simp
  refine ⟨h2, (hs.alloc _).alloc _, ?_⟩
  rw [← e2]; exact World.iter_heap _ X 0
set_option maxRecDepth 100000 in
set_option maxHeartbeats 4000000 in
theorem of1_n (u m v e : ByteArray) (hm : (m.toList == [78]) = false) (h1 : m.size = 1) (R : Nat → Nat) (k0 : (u.toList == [75, 48]) = false) (k1 : (u.toList == [75, 49]) = false) (hK : isK u = false) (hdel : DelOf) (hdec : ∀ p, p < m.size → Utf8.decode m p = (R p, 1)) :
    MkOf 8 Table.Tabs u m v e (ops.filter (fun op => memB op (allL u ((List.range m.size).map fun j => (R j : Int))))) := by
  intro w hT
  have t1 : ((m.size : Int) != 1) = false := by rw [h1]; rfl
  have t2 : ((m.size : Int) == 1) = true := by rw [h1]; rfl
  have hp := Lib.hid (hb_new w KT trivial #[.string u, .string m, .string v, .string e] 24)
  obtain ⟨_, m0, m1, m2, m3⟩ := hb4 hp
  clear hT
  go_enter Tryd.func8, Tryd.ntmps8
  go_wp2_with fail
  clear m0 m1 m2 m3 hp
  have HI := Lib.hid (oi_new w u m v e m)
  obtain ⟨W0, hW0⟩ : ∃ W0, W0 = ((w.alloc (.cells #[.string u, .string m, .string v, .string e] 24)).alloc (.cells #[.slice none 0 0] 30)).iter m 0 := ⟨_, rfl⟩
  rw [← hW0] at HI ⊢
  clear hW0
  have HGI := Lib.hid (show w.heap.size ≤ w.heap.size + 1 + 1 by omega)
  have HD := Lib.hid hdec
  clear hdec
  go_loopw [6] (fun _ wr => ∃ (p : Nat) (V : Value), p ≤ m.size ∧ Hid (OI w w.heap.size (w.heap.size + 1) (w.heap.size + 1 + 1) u m v e m p V (allL u ((List.range p).map fun j => (R j : Int))) [] wr)) (fun _ wr => m.size - wr.iterPos (w.heap.size + 1 + 1))
  case atStart => exact ⟨0, _, by omega, HI⟩
  case round =>
    clear HI
    obtain ⟨p, V, hp, HI⟩ := hrel
    have hmu : wr.iterPos (w.heap.size + 1 + 1) = p := by simp [World.iterPos, HI.out.it]
    by_cases hlt : p < m.size
    · have hnx : ∀ ty, (Instr.next (.pointer (some ⟨(w.heap.size + 1 + 1), 0, none⟩)) true ty).run Tryd.prog wr = .ok (.tuple #[.bool true, .int .i64 (p : Int), .int .i32 (R p : Int)]) (wr.iterAt (w.heap.size + 1 + 1) m (p + 1)) := fun ty => by
        have h := Lib.run_next_any_at (P := Tryd.prog) wr (w.heap.size + 1 + 1) m p ty HI.out.it hlt
        rw [HD.out p hlt] at h
        exact h
      have HI1 := oi_next HI HGI.out (p + 1)
      generalize wr.iterAt (w.heap.size + 1 + 1) m (p + 1) = W1 at hnx HI1
      have c3 := gn_mk (R p : Int)
      have hA := allL_len u ((List.range p).map fun j => (R j : Int))
      have hsn := allL_snoc u ((List.range p).map fun j => (R j : Int)) (R p : Int)
      have hrg : (List.range (p + 1)).map (fun j => (R j : Int)) = ((List.range p).map fun j => (R j : Int)) ++ [(R p : Int)] := by rw [List.range_succ, List.map_append]; rfl
      rw [← hrg] at hsn
      rw [List.length_map, List.length_range] at hA
      obtain ⟨A0, hA0⟩ : ∃ A0, A0 = allL u ((List.range p).map fun j => (R j : Int)) := ⟨_, rfl⟩
      obtain ⟨gl, hgl⟩ : ∃ gl, gl = grL (R p : Int) := ⟨_, rfl⟩
      have hg2 := grL_len (R p : Int)
      rw [← hA0] at HI1 hA hsn
      rw [← hgl] at c3 hsn hg2
      have HSN := Lib.hid hsn
      clear HI hA0 hgl hrg hsn
      go_wp2_with fail
      refine (c3 _).mono ?_
      rintro r w2 ⟨G, rfl, h2, hrw⟩
      have hR2 := hrw w.heap.size _ (Below.size HI1.out.since) HI1.out.rows
      have HI2 : Hid (OI w w.heap.size (w.heap.size + 1) (w.heap.size + 1 + 1) u m v e m (p + 1) V A0 [sr G gl] w2) := Lib.hid ⟨hR2, HI1.out.since.step h2, (Below.block h2 _ (Array.getElem?_eq_some_iff.1 HI1.out.it).1).trans HI1.out.it⟩
      obtain ⟨Ga, Gc, hG, _⟩ := (oi_more HI2).slice
      subst hG
      obtain ⟨k, hk⟩ : ∃ k, k = gl.length := ⟨_, rfl⟩
      rw [← hk] at hg2
      have HK := Lib.hid hk
      clear c3 hnx HI1 hR2 hrw h2 hk
      rw [← HK.out]
      go_wp2_with fail
      go_loopw [29] (fun i wx => ∃ (j : Nat) (V2 : Value), j ≤ k ∧ i = .int .i64 (j : Int) ∧ Hid (OI w w.heap.size (w.heap.size + 1) (w.heap.size + 1 + 1) u m v e m (p + 1) V2 (A0 ++ (gl.take j).map (opOf u)) [sr (.slice Ga k Gc) gl] wx)) (fun i _ => k - (intOf i).toNat)
      case atStart => exact ⟨0, V, by omega, rfl, by rw [List.take_zero, List.map_nil, List.append_nil, HK.out]; exact HI2⟩
      case round =>
        clear HI2
        obtain ⟨j, V2, hj, rfl, HI3⟩ := hrel
        by_cases hlj : j < k
        · obtain ⟨y, hy⟩ : ∃ y, gl[j]? = some y := ⟨gl[j]'(by rw [← HK.out]; exact hlj), List.getElem?_eq_getElem _⟩
          obtain ⟨b, o, c0, hv, _, _, _, h4⟩ := SlR.form (oi_more HI3) (by rw [← HK.out]; omega)
          have m4 := h4 j (.string y) (by rw [List.getElem?_map, hy]; rfl)
          rw [← HK.out] at hv
          cases hv
          obtain ⟨q0, q1, q2⟩ := oi_cells HI3
          obtain ⟨A2, c2, hV2⟩ := own_any (oi_own HI3)
          have hln : (A0 ++ (gl.take j).map (opOf u)).length ≤ 1000 := by
            rw [List.length_append, List.length_map, List.length_take]; omega
          obtain ⟨g1, g2⟩ := List.getElem?_eq_some_iff.1 hy
          have HTK := Lib.hid (show A0 ++ (gl.take (j + 1)).map (opOf u) = (A0 ++ (gl.take j).map (opOf u)) ++ [opOf u y] by
            rw [List.take_succ_eq_append_getElem g1, g2, List.map_append, List.append_assoc]; rfl)
          have i1 : (0 : Int) ≤ (j : Int) := by omega
          have i2 : (j : Int) < (k : Int) := by omega
          have c5 := key_ret y
          obtain ⟨Y, hY⟩ : ∃ Y, Y = opOf u y := ⟨_, rfl⟩
          rw [← hY] at HTK
          (have hYy : Y = y := by rw [hY]; unfold opOf; rw [hK]; rfl); clear hY; subst hYy
          obtain ⟨A1, hA1⟩ : ∃ A1, A1 = A0 ++ (gl.take j).map (opOf u) := ⟨_, rfl⟩
          rw [← hA1] at HI3 hln HTK hV2
          subst hV2
          have HI3v := HI3
          clear hy g1 g2 h4 hA1
          go_wp2_with (first
            | (go_at_call 23; refine c5.calls ?_)
            | (at_builtin; refine app_rows elemS rfl _ _ (by rfl) w wr _ rfl [_, _] [_] _ A1.length _ (by rfl) HI3.out.rows HI3.out.since #[.string Y] 1 1 (by rfl) rfl (by intro v9 hv9; simp at hv9; subst hv9; rfl) (by unfold maxLen; omega) (by omega) ?_; intro V3 w4 HR4 HS4 HK4; obtain ⟨A3, c3, hV3⟩ : ∃ A c, V3 = .slice A (A1.length + 1) c := own_any HR4.get; subst hV3; have HR4h := Lib.hid HR4; have HK4h := Lib.hid HK4; have HS4h := Lib.hid HS4; clear HR4 HK4 HS4 q0 q1 q2 m4)
            | (refine at_store (ty := 30) rfl ?_; refine store_rows rfl 30 _ _ rfl tS_one w w4 [] _ 30 1 (w.heap.size + 1) 1 1 _ HR4h.out HS4h.out 0 (by decide) (by rfl) (.slice A3 (A1.length + 1) c3) (by rfl) rfl ?_; intro w5 HR5 HS5 HK5; have HI5 := oi_grow HI3v HR4h.out HK4h.out HR5 HS5 HK5; clear HR5 HS5 HK5))
          go_roundw
          case rel => exact ⟨j + 1, _, by omega, by go_num, by rw [HTK.out]; exact HI5⟩
          case measure => simp [intOf]; omega
        · obtain rfl : j = k := by omega
          have HI4 := oi_drop HI3
          rw [HK.out, List.take_length, ← HSN.out] at HI4
          have hp9 : wr.iterPos (w.heap.size + 1 + 1) = p + 1 := by simp [World.iterPos, HI4.out.it]
          clear HI3
          go_wp2_with fail
          go_roundw
          case rel => exact ⟨p + 1, _, by omega, HI4⟩
          case measure =>
            rw [hmu, hp9]
            omega
    · obtain rfl : p = m.size := by omega
      have hnx : ∀ ty, (Instr.next (.pointer (some ⟨(w.heap.size + 1 + 1), 0, none⟩)) true ty).run Tryd.prog wr = .ok (.tuple #[.bool false]) wr := fun ty => Lib.run_next_end_at (P := Tryd.prog) wr (w.heap.size + 1 + 1) m _ ty HI.out.it (by omega)
      have c8 := fun t => hdel wr (w.heap.size + 1) V _ t (oi_lt HI) (oi_cells HI).2.2 (oi_strs HI)
      have HS := Lib.hid HI.out.since
      clear HI
      go_wp2_with fail
      refine (ops_new _).mono ?_
      rintro r w2 ⟨t, rfl, rfl⟩
      go_wp2_with fail
      refine (c8 t).mono ?_
      rintro r w3 ⟨x, rfl, hx, h5⟩
      have HX := Lib.hid hx
      replace HS := Lib.hid (HS.out.step h5)
      clear hx h5 c8
      go_wp2_with fail
      go_ret
      exact ⟨_, rfl, HX.out, HS.out⟩
set_option maxRecDepth 100000 in
set_option maxHeartbeats 4000000 in
theorem of1_0 (u m v e : ByteArray) (hm : (m.toList == [78]) = false) (h1 : m.size = 1) (R : Nat → Nat) (k0 : (u.toList == [75, 48]) = true) (hK : isK u = true) (hdel : DelOf) (hdec : ∀ p, p < m.size → Utf8.decode m p = (R p, 1)) :
    MkOf 8 Table.Tabs u m v e (ops.filter (fun op => memB op (allL u ((List.range m.size).map fun j => (R j : Int))))) := by
  intro w hT
  have t1 : ((m.size : Int) != 1) = false := by rw [h1]; rfl
  have t2 : ((m.size : Int) == 1) = true := by rw [h1]; rfl
  have hp := Lib.hid (hb_new w KT trivial #[.string u, .string m, .string v, .string e] 24)
  obtain ⟨_, m0, m1, m2, m3⟩ := hb4 hp
  clear hT
  go_enter Tryd.func8, Tryd.ntmps8
  go_wp2_with fail
  clear m0 m1 m2 m3 hp
  have HI := Lib.hid (oi_new w u m v e m)
  obtain ⟨W0, hW0⟩ : ∃ W0, W0 = ((w.alloc (.cells #[.string u, .string m, .string v, .string e] 24)).alloc (.cells #[.slice none 0 0] 30)).iter m 0 := ⟨_, rfl⟩
  rw [← hW0] at HI ⊢
  clear hW0
  have HGI := Lib.hid (show w.heap.size ≤ w.heap.size + 1 + 1 by omega)
  have HD := Lib.hid hdec
  clear hdec
  go_loopw [6] (fun _ wr => ∃ (p : Nat) (V : Value), p ≤ m.size ∧ Hid (OI w w.heap.size (w.heap.size + 1) (w.heap.size + 1 + 1) u m v e m p V (allL u ((List.range p).map fun j => (R j : Int))) [] wr)) (fun _ wr => m.size - wr.iterPos (w.heap.size + 1 + 1))
  case atStart => exact ⟨0, _, by omega, HI⟩
  case round =>
    clear HI
    obtain ⟨p, V, hp, HI⟩ := hrel
    have hmu : wr.iterPos (w.heap.size + 1 + 1) = p := by simp [World.iterPos, HI.out.it]
    by_cases hlt : p < m.size
    · have hnx : ∀ ty, (Instr.next (.pointer (some ⟨(w.heap.size + 1 + 1), 0, none⟩)) true ty).run Tryd.prog wr = .ok (.tuple #[.bool true, .int .i64 (p : Int), .int .i32 (R p : Int)]) (wr.iterAt (w.heap.size + 1 + 1) m (p + 1)) := fun ty => by
        have h := Lib.run_next_any_at (P := Tryd.prog) wr (w.heap.size + 1 + 1) m p ty HI.out.it hlt
        rw [HD.out p hlt] at h
        exact h
      have HI1 := oi_next HI HGI.out (p + 1)
      generalize wr.iterAt (w.heap.size + 1 + 1) m (p + 1) = W1 at hnx HI1
      have c3 := gn_mk (R p : Int)
      have hA := allL_len u ((List.range p).map fun j => (R j : Int))
      have hsn := allL_snoc u ((List.range p).map fun j => (R j : Int)) (R p : Int)
      have hrg : (List.range (p + 1)).map (fun j => (R j : Int)) = ((List.range p).map fun j => (R j : Int)) ++ [(R p : Int)] := by rw [List.range_succ, List.map_append]; rfl
      rw [← hrg] at hsn
      rw [List.length_map, List.length_range] at hA
      obtain ⟨A0, hA0⟩ : ∃ A0, A0 = allL u ((List.range p).map fun j => (R j : Int)) := ⟨_, rfl⟩
      obtain ⟨gl, hgl⟩ : ∃ gl, gl = grL (R p : Int) := ⟨_, rfl⟩
      have hg2 := grL_len (R p : Int)
      rw [← hA0] at HI1 hA hsn
      rw [← hgl] at c3 hsn hg2
      have HSN := Lib.hid hsn
      clear HI hA0 hgl hrg hsn
      go_wp2_with fail
      refine (c3 _).mono ?_
      rintro r w2 ⟨G, rfl, h2, hrw⟩
      have hR2 := hrw w.heap.size _ (Below.size HI1.out.since) HI1.out.rows
      have HI2 : Hid (OI w w.heap.size (w.heap.size + 1) (w.heap.size + 1 + 1) u m v e m (p + 1) V A0 [sr G gl] w2) := Lib.hid ⟨hR2, HI1.out.since.step h2, (Below.block h2 _ (Array.getElem?_eq_some_iff.1 HI1.out.it).1).trans HI1.out.it⟩
      obtain ⟨Ga, Gc, hG, _⟩ := (oi_more HI2).slice
      subst hG
      obtain ⟨k, hk⟩ : ∃ k, k = gl.length := ⟨_, rfl⟩
      rw [← hk] at hg2
      have HK := Lib.hid hk
      clear c3 hnx HI1 hR2 hrw h2 hk
      rw [← HK.out]
      go_wp2_with fail
      go_loopw [29] (fun i wx => ∃ (j : Nat) (V2 : Value), j ≤ k ∧ i = .int .i64 (j : Int) ∧ Hid (OI w w.heap.size (w.heap.size + 1) (w.heap.size + 1 + 1) u m v e m (p + 1) V2 (A0 ++ (gl.take j).map (opOf u)) [sr (.slice Ga k Gc) gl] wx)) (fun i _ => k - (intOf i).toNat)
      case atStart => exact ⟨0, V, by omega, rfl, by rw [List.take_zero, List.map_nil, List.append_nil, HK.out]; exact HI2⟩
      case round =>
        clear HI2
        obtain ⟨j, V2, hj, rfl, HI3⟩ := hrel
        by_cases hlj : j < k
        · obtain ⟨y, hy⟩ : ∃ y, gl[j]? = some y := ⟨gl[j]'(by rw [← HK.out]; exact hlj), List.getElem?_eq_getElem _⟩
          obtain ⟨b, o, c0, hv, _, _, _, h4⟩ := SlR.form (oi_more HI3) (by rw [← HK.out]; omega)
          have m4 := h4 j (.string y) (by rw [List.getElem?_map, hy]; rfl)
          rw [← HK.out] at hv
          cases hv
          obtain ⟨q0, q1, q2⟩ := oi_cells HI3
          obtain ⟨A2, c2, hV2⟩ := own_any (oi_own HI3)
          have hln : (A0 ++ (gl.take j).map (opOf u)).length ≤ 1000 := by
            rw [List.length_append, List.length_map, List.length_take]; omega
          obtain ⟨g1, g2⟩ := List.getElem?_eq_some_iff.1 hy
          have HTK := Lib.hid (show A0 ++ (gl.take (j + 1)).map (opOf u) = (A0 ++ (gl.take j).map (opOf u)) ++ [opOf u y] by
            rw [List.take_succ_eq_append_getElem g1, g2, List.map_append, List.append_assoc]; rfl)
          have i1 : (0 : Int) ≤ (j : Int) := by omega
          have i2 : (j : Int) < (k : Int) := by omega
          have c5 := key_ret y
          obtain ⟨Y, hY⟩ : ∃ Y, Y = opOf u y := ⟨_, rfl⟩
          rw [← hY] at HTK
          (have hYy : keyOp y = Y := by rw [hY]; unfold opOf; rw [hK]; rfl); clear hY; rw [hYy] at c5; clear hYy
          obtain ⟨A1, hA1⟩ : ∃ A1, A1 = A0 ++ (gl.take j).map (opOf u) := ⟨_, rfl⟩
          rw [← hA1] at HI3 hln HTK hV2
          subst hV2
          have HI3v := HI3
          clear hy g1 g2 h4 hA1
          go_wp2_with (first
            | (go_at_call 23; refine c5.calls ?_)
            | (at_builtin; refine app_rows elemS rfl _ _ (by rfl) w wr _ rfl [_, _] [_] _ A1.length _ (by rfl) HI3.out.rows HI3.out.since #[.string Y] 1 1 (by rfl) rfl (by intro v9 hv9; simp at hv9; subst hv9; rfl) (by unfold maxLen; omega) (by omega) ?_; intro V3 w4 HR4 HS4 HK4; obtain ⟨A3, c3, hV3⟩ : ∃ A c, V3 = .slice A (A1.length + 1) c := own_any HR4.get; subst hV3; have HR4h := Lib.hid HR4; have HK4h := Lib.hid HK4; have HS4h := Lib.hid HS4; clear HR4 HK4 HS4 q0 q1 q2 m4)
            | (refine at_store (ty := 30) rfl ?_; refine store_rows rfl 30 _ _ rfl tS_one w w4 [] _ 30 1 (w.heap.size + 1) 1 1 _ HR4h.out HS4h.out 0 (by decide) (by rfl) (.slice A3 (A1.length + 1) c3) (by rfl) rfl ?_; intro w5 HR5 HS5 HK5; have HI5 := oi_grow HI3v HR4h.out HK4h.out HR5 HS5 HK5; clear HR5 HS5 HK5))
          go_roundw
          case rel => exact ⟨j + 1, _, by omega, by go_num, by rw [HTK.out]; exact HI5⟩
          case measure => simp [intOf]; omega
        · obtain rfl : j = k := by omega
          have HI4 := oi_drop HI3
          rw [HK.out, List.take_length, ← HSN.out] at HI4
          have hp9 : wr.iterPos (w.heap.size + 1 + 1) = p + 1 := by simp [World.iterPos, HI4.out.it]
          clear HI3
          go_wp2_with fail
          go_roundw
          case rel => exact ⟨p + 1, _, by omega, HI4⟩
          case measure =>
            rw [hmu, hp9]
            omega
    · obtain rfl : p = m.size := by omega
      have hnx : ∀ ty, (Instr.next (.pointer (some ⟨(w.heap.size + 1 + 1), 0, none⟩)) true ty).run Tryd.prog wr = .ok (.tuple #[.bool false]) wr := fun ty => Lib.run_next_end_at (P := Tryd.prog) wr (w.heap.size + 1 + 1) m _ ty HI.out.it (by omega)
      have c8 := fun t => hdel wr (w.heap.size + 1) V _ t (oi_lt HI) (oi_cells HI).2.2 (oi_strs HI)
      have HS := Lib.hid HI.out.since
      clear HI
      go_wp2_with fail
      refine (ops_new _).mono ?_
      rintro r w2 ⟨t, rfl, rfl⟩
      go_wp2_with fail
      refine (c8 t).mono ?_
      rintro r w3 ⟨x, rfl, hx, h5⟩
      have HX := Lib.hid hx
      replace HS := Lib.hid (HS.out.step h5)
      clear hx h5 c8
      go_wp2_with fail
      go_ret
      exact ⟨_, rfl, HX.out, HS.out⟩
set_option maxRecDepth 100000 in
set_option maxHeartbeats 4000000 in
theorem of1_1 (u m v e : ByteArray) (hm : (m.toList == [78]) = false) (h1 : m.size = 1) (R : Nat → Nat) (k0 : (u.toList == [75, 48]) = false) (k1 : (u.toList == [75, 49]) = true) (hK : isK u = true) (hdel : DelOf) (hdec : ∀ p, p < m.size → Utf8.decode m p = (R p, 1)) :
    MkOf 8 Table.Tabs u m v e (ops.filter (fun op => memB op (allL u ((List.range m.size).map fun j => (R j : Int))))) := by
  intro w hT
  have t1 : ((m.size : Int) != 1) = false := by rw [h1]; rfl
  have t2 : ((m.size : Int) == 1) = true := by rw [h1]; rfl
  have hp := Lib.hid (hb_new w KT trivial #[.string u, .string m, .string v, .string e] 24)
  obtain ⟨_, m0, m1, m2, m3⟩ := hb4 hp
  clear hT
  go_enter Tryd.func8, Tryd.ntmps8
  go_wp2_with fail
  clear m0 m1 m2 m3 hp
  have HI := Lib.hid (oi_new w u m v e m)
  obtain ⟨W0, hW0⟩ : ∃ W0, W0 = ((w.alloc (.cells #[.string u, .string m, .string v, .string e] 24)).alloc (.cells #[.slice none 0 0] 30)).iter m 0 := ⟨_, rfl⟩
  rw [← hW0] at HI ⊢
  clear hW0
  have HGI := Lib.hid (show w.heap.size ≤ w.heap.size + 1 + 1 by omega)
  have HD := Lib.hid hdec
  clear hdec
  go_loopw [6] (fun _ wr => ∃ (p : Nat) (V : Value), p ≤ m.size ∧ Hid (OI w w.heap.size (w.heap.size + 1) (w.heap.size + 1 + 1) u m v e m p V (allL u ((List.range p).map fun j => (R j : Int))) [] wr)) (fun _ wr => m.size - wr.iterPos (w.heap.size + 1 + 1))
  case atStart => exact ⟨0, _, by omega, HI⟩
  case round =>
    clear HI
    obtain ⟨p, V, hp, HI⟩ := hrel
    have hmu : wr.iterPos (w.heap.size + 1 + 1) = p := by simp [World.iterPos, HI.out.it]
    by_cases hlt : p < m.size
    · have hnx : ∀ ty, (Instr.next (.pointer (some ⟨(w.heap.size + 1 + 1), 0, none⟩)) true ty).run Tryd.prog wr = .ok (.tuple #[.bool true, .int .i64 (p : Int), .int .i32 (R p : Int)]) (wr.iterAt (w.heap.size + 1 + 1) m (p + 1)) := fun ty => by
        have h := Lib.run_next_any_at (P := Tryd.prog) wr (w.heap.size + 1 + 1) m p ty HI.out.it hlt
        rw [HD.out p hlt] at h
        exact h
      have HI1 := oi_next HI HGI.out (p + 1)
      generalize wr.iterAt (w.heap.size + 1 + 1) m (p + 1) = W1 at hnx HI1
      have c3 := gn_mk (R p : Int)
      have hA := allL_len u ((List.range p).map fun j => (R j : Int))
      have hsn := allL_snoc u ((List.range p).map fun j => (R j : Int)) (R p : Int)
      have hrg : (List.range (p + 1)).map (fun j => (R j : Int)) = ((List.range p).map fun j => (R j : Int)) ++ [(R p : Int)] := by rw [List.range_succ, List.map_append]; rfl
      rw [← hrg] at hsn
      rw [List.length_map, List.length_range] at hA
      obtain ⟨A0, hA0⟩ : ∃ A0, A0 = allL u ((List.range p).map fun j => (R j : Int)) := ⟨_, rfl⟩
      obtain ⟨gl, hgl⟩ : ∃ gl, gl = grL (R p : Int) := ⟨_, rfl⟩
      have hg2 := grL_len (R p : Int)
      rw [← hA0] at HI1 hA hsn
      rw [← hgl] at c3 hsn hg2
      have HSN := Lib.hid hsn
      clear HI hA0 hgl hrg hsn
      go_wp2_with fail
      refine (c3 _).mono ?_
      rintro r w2 ⟨G, rfl, h2, hrw⟩
      have hR2 := hrw w.heap.size _ (Below.size HI1.out.since) HI1.out.rows
      have HI2 : Hid (OI w w.heap.size (w.heap.size + 1) (w.heap.size + 1 + 1) u m v e m (p + 1) V A0 [sr G gl] w2) := Lib.hid ⟨hR2, HI1.out.since.step h2, (Below.block h2 _ (Array.getElem?_eq_some_iff.1 HI1.out.it).1).trans HI1.out.it⟩
      obtain ⟨Ga, Gc, hG, _⟩ := (oi_more HI2).slice
      subst hG
      obtain ⟨k, hk⟩ : ∃ k, k = gl.length := ⟨_, rfl⟩
      rw [← hk] at hg2
      have HK := Lib.hid hk
      clear c3 hnx HI1 hR2 hrw h2 hk
      rw [← HK.out]
      go_wp2_with fail
      go_loopw [29] (fun i wx => ∃ (j : Nat) (V2 : Value), j ≤ k ∧ i = .int .i64 (j : Int) ∧ Hid (OI w w.heap.size (w.heap.size + 1) (w.heap.size + 1 + 1) u m v e m (p + 1) V2 (A0 ++ (gl.take j).map (opOf u)) [sr (.slice Ga k Gc) gl] wx)) (fun i _ => k - (intOf i).toNat)
      case atStart => exact ⟨0, V, by omega, rfl, by rw [List.take_zero, List.map_nil, List.append_nil, HK.out]; exact HI2⟩
      case round =>
        clear HI2
        obtain ⟨j, V2, hj, rfl, HI3⟩ := hrel
        by_cases hlj : j < k
        · obtain ⟨y, hy⟩ : ∃ y, gl[j]? = some y := ⟨gl[j]'(by rw [← HK.out]; exact hlj), List.getElem?_eq_getElem _⟩
          obtain ⟨b, o, c0, hv, _, _, _, h4⟩ := SlR.form (oi_more HI3) (by rw [← HK.out]; omega)
          have m4 := h4 j (.string y) (by rw [List.getElem?_map, hy]; rfl)
          rw [← HK.out] at hv
          cases hv
          obtain ⟨q0, q1, q2⟩ := oi_cells HI3
          obtain ⟨A2, c2, hV2⟩ := own_any (oi_own HI3)
          have hln : (A0 ++ (gl.take j).map (opOf u)).length ≤ 1000 := by
            rw [List.length_append, List.length_map, List.length_take]; omega
          obtain ⟨g1, g2⟩ := List.getElem?_eq_some_iff.1 hy
          have HTK := Lib.hid (show A0 ++ (gl.take (j + 1)).map (opOf u) = (A0 ++ (gl.take j).map (opOf u)) ++ [opOf u y] by
            rw [List.take_succ_eq_append_getElem g1, g2, List.map_append, List.append_assoc]; rfl)
          have i1 : (0 : Int) ≤ (j : Int) := by omega
          have i2 : (j : Int) < (k : Int) := by omega
          have c5 := key_ret y
          obtain ⟨Y, hY⟩ : ∃ Y, Y = opOf u y := ⟨_, rfl⟩
          rw [← hY] at HTK
          (have hYy : keyOp y = Y := by rw [hY]; unfold opOf; rw [hK]; rfl); clear hY; rw [hYy] at c5; clear hYy
          obtain ⟨A1, hA1⟩ : ∃ A1, A1 = A0 ++ (gl.take j).map (opOf u) := ⟨_, rfl⟩
          rw [← hA1] at HI3 hln HTK hV2
          subst hV2
          have HI3v := HI3
          clear hy g1 g2 h4 hA1
          go_wp2_with (first
            | (go_at_call 23; refine c5.calls ?_)
            | (at_builtin; refine app_rows elemS rfl _ _ (by rfl) w wr _ rfl [_, _] [_] _ A1.length _ (by rfl) HI3.out.rows HI3.out.since #[.string Y] 1 1 (by rfl) rfl (by intro v9 hv9; simp at hv9; subst hv9; rfl) (by unfold maxLen; omega) (by omega) ?_; intro V3 w4 HR4 HS4 HK4; obtain ⟨A3, c3, hV3⟩ : ∃ A c, V3 = .slice A (A1.length + 1) c := own_any HR4.get; subst hV3; have HR4h := Lib.hid HR4; have HK4h := Lib.hid HK4; have HS4h := Lib.hid HS4; clear HR4 HK4 HS4 q0 q1 q2 m4)
            | (refine at_store (ty := 30) rfl ?_; refine store_rows rfl 30 _ _ rfl tS_one w w4 [] _ 30 1 (w.heap.size + 1) 1 1 _ HR4h.out HS4h.out 0 (by decide) (by rfl) (.slice A3 (A1.length + 1) c3) (by rfl) rfl ?_; intro w5 HR5 HS5 HK5; have HI5 := oi_grow HI3v HR4h.out HK4h.out HR5 HS5 HK5; clear HR5 HS5 HK5))
          go_roundw
          case rel => exact ⟨j + 1, _, by omega, by go_num, by rw [HTK.out]; exact HI5⟩
          case measure => simp [intOf]; omega
        · obtain rfl : j = k := by omega
          have HI4 := oi_drop HI3
          rw [HK.out, List.take_length, ← HSN.out] at HI4
          have hp9 : wr.iterPos (w.heap.size + 1 + 1) = p + 1 := by simp [World.iterPos, HI4.out.it]
          clear HI3
          go_wp2_with fail
          go_roundw
          case rel => exact ⟨p + 1, _, by omega, HI4⟩
          case measure =>
            rw [hmu, hp9]
            omega
    · obtain rfl : p = m.size := by omega
      have hnx : ∀ ty, (Instr.next (.pointer (some ⟨(w.heap.size + 1 + 1), 0, none⟩)) true ty).run Tryd.prog wr = .ok (.tuple #[.bool false]) wr := fun ty => Lib.run_next_end_at (P := Tryd.prog) wr (w.heap.size + 1 + 1) m _ ty HI.out.it (by omega)
      have c8 := fun t => hdel wr (w.heap.size + 1) V _ t (oi_lt HI) (oi_cells HI).2.2 (oi_strs HI)
      have HS := Lib.hid HI.out.since
      clear HI
      go_wp2_with fail
      refine (ops_new _).mono ?_
      rintro r w2 ⟨t, rfl, rfl⟩
      go_wp2_with fail
      refine (c8 t).mono ?_
      rintro r w3 ⟨x, rfl, hx, h5⟩
      have HX := Lib.hid hx
      replace HS := Lib.hid (HS.out.step h5)
      clear hx h5 c8
      go_wp2_with fail
      go_ret
      exact ⟨_, rfl, HX.out, HS.out⟩
set_option maxRecDepth 100000 in
set_option maxHeartbeats 4000000 in
theorem ofn_n (u m v e : ByteArray) (hm : (m.toList == [78]) = true) (X : ByteArray) (c2 : KMk Table.Tabs 21 #[.string u] (.string X)) (hX : X.size ≤ 20) (R : Nat → Nat) (k0 : (u.toList == [75, 48]) = false) (k1 : (u.toList == [75, 49]) = false) (hK : isK u = false) (hdel : DelOf) (hdec : ∀ p, p < X.size → Utf8.decode X p = (R p, 1)) :
    MkOf 8 Table.Tabs u m v e (ops.filter (fun op => memB op (allL u ((List.range X.size).map fun j => (R j : Int))))) := by
  intro w hT
  have hp := Lib.hid (hb_new w Table.Tabs hT #[.string u, .string m, .string v, .string e] 24)
  obtain ⟨_, m0, m1, m2, m3⟩ := hb4 hp
  clear hT
  go_enter Tryd.func8, Tryd.ntmps8
  go_wp2_with fail
  refine c2.calls0 hp.out.tabs ?_
  intro w1 h1
  have HI := Lib.hid (oi_new2 w w1 u m v e X h1)
  have HGI := Lib.hid (show w.heap.size ≤ w1.heap.size + 1 from Nat.le_succ_of_le (Below.size (((Since.refl w).alloc _).step h1)))
  clear m0 m1 m2 m3 hp h1
  go_wp2_with fail
  obtain ⟨W0, hW0⟩ : ∃ W0, W0 = (w1.alloc (.cells #[.slice none 0 0] 30)).iter X 0 := ⟨_, rfl⟩
  rw [← hW0] at HI ⊢
  clear hW0
  have HD := Lib.hid hdec
  clear hdec
  go_loopw [6] (fun _ wr => ∃ (p : Nat) (V : Value), p ≤ X.size ∧ Hid (OI w w.heap.size w1.heap.size (w1.heap.size + 1) u m v e X p V (allL u ((List.range p).map fun j => (R j : Int))) [] wr)) (fun _ wr => X.size - wr.iterPos (w1.heap.size + 1))
  case atStart => exact ⟨0, _, by omega, HI⟩
  case round =>
    clear HI
    obtain ⟨p, V, hp, HI⟩ := hrel
    have hmu : wr.iterPos (w1.heap.size + 1) = p := by simp [World.iterPos, HI.out.it]
    by_cases hlt : p < X.size
    · have hnx : ∀ ty, (Instr.next (.pointer (some ⟨(w1.heap.size + 1), 0, none⟩)) true ty).run Tryd.prog wr = .ok (.tuple #[.bool true, .int .i64 (p : Int), .int .i32 (R p : Int)]) (wr.iterAt (w1.heap.size + 1) X (p + 1)) := fun ty => by
        have h := Lib.run_next_any_at (P := Tryd.prog) wr (w1.heap.size + 1) X p ty HI.out.it hlt
        rw [HD.out p hlt] at h
        exact h
      have HI1 := oi_next HI HGI.out (p + 1)
      generalize wr.iterAt (w1.heap.size + 1) X (p + 1) = W1 at hnx HI1
      have c3 := gn_mk (R p : Int)
      have hA := allL_len u ((List.range p).map fun j => (R j : Int))
      have hsn := allL_snoc u ((List.range p).map fun j => (R j : Int)) (R p : Int)
      have hrg : (List.range (p + 1)).map (fun j => (R j : Int)) = ((List.range p).map fun j => (R j : Int)) ++ [(R p : Int)] := by rw [List.range_succ, List.map_append]; rfl
      rw [← hrg] at hsn
      rw [List.length_map, List.length_range] at hA
      obtain ⟨A0, hA0⟩ : ∃ A0, A0 = allL u ((List.range p).map fun j => (R j : Int)) := ⟨_, rfl⟩
      obtain ⟨gl, hgl⟩ : ∃ gl, gl = grL (R p : Int) := ⟨_, rfl⟩
      have hg2 := grL_len (R p : Int)
      rw [← hA0] at HI1 hA hsn
      rw [← hgl] at c3 hsn hg2
      have HSN := Lib.hid hsn
      clear HI hA0 hgl hrg hsn
      go_wp2_with fail
      refine (c3 _).mono ?_
      rintro r w2 ⟨G, rfl, h2, hrw⟩
      have hR2 := hrw w.heap.size _ (Below.size HI1.out.since) HI1.out.rows
      have HI2 : Hid (OI w w.heap.size w1.heap.size (w1.heap.size + 1) u m v e X (p + 1) V A0 [sr G gl] w2) := Lib.hid ⟨hR2, HI1.out.since.step h2, (Below.block h2 _ (Array.getElem?_eq_some_iff.1 HI1.out.it).1).trans HI1.out.it⟩
      obtain ⟨Ga, Gc, hG, _⟩ := (oi_more HI2).slice
      subst hG
      obtain ⟨k, hk⟩ : ∃ k, k = gl.length := ⟨_, rfl⟩
      rw [← hk] at hg2
      have HK := Lib.hid hk
      clear c3 hnx HI1 hR2 hrw h2 hk
      rw [← HK.out]
      go_wp2_with fail
      go_loopw [29] (fun i wx => ∃ (j : Nat) (V2 : Value), j ≤ k ∧ i = .int .i64 (j : Int) ∧ Hid (OI w w.heap.size w1.heap.size (w1.heap.size + 1) u m v e X (p + 1) V2 (A0 ++ (gl.take j).map (opOf u)) [sr (.slice Ga k Gc) gl] wx)) (fun i _ => k - (intOf i).toNat)
      case atStart => exact ⟨0, V, by omega, rfl, by rw [List.take_zero, List.map_nil, List.append_nil, HK.out]; exact HI2⟩
      case round =>
        clear HI2
        obtain ⟨j, V2, hj, rfl, HI3⟩ := hrel
        by_cases hlj : j < k
        · obtain ⟨y, hy⟩ : ∃ y, gl[j]? = some y := ⟨gl[j]'(by rw [← HK.out]; exact hlj), List.getElem?_eq_getElem _⟩
          obtain ⟨b, o, c0, hv, _, _, _, h4⟩ := SlR.form (oi_more HI3) (by rw [← HK.out]; omega)
          have m4 := h4 j (.string y) (by rw [List.getElem?_map, hy]; rfl)
          rw [← HK.out] at hv
          cases hv
          obtain ⟨q0, q1, q2⟩ := oi_cells HI3
          obtain ⟨A2, c2, hV2⟩ := own_any (oi_own HI3)
          have hln : (A0 ++ (gl.take j).map (opOf u)).length ≤ 1000 := by
            rw [List.length_append, List.length_map, List.length_take]; omega
          obtain ⟨g1, g2⟩ := List.getElem?_eq_some_iff.1 hy
          have HTK := Lib.hid (show A0 ++ (gl.take (j + 1)).map (opOf u) = (A0 ++ (gl.take j).map (opOf u)) ++ [opOf u y] by
            rw [List.take_succ_eq_append_getElem g1, g2, List.map_append, List.append_assoc]; rfl)
          have i1 : (0 : Int) ≤ (j : Int) := by omega
          have i2 : (j : Int) < (k : Int) := by omega
          have c5 := key_ret y
          obtain ⟨Y, hY⟩ : ∃ Y, Y = opOf u y := ⟨_, rfl⟩
          rw [← hY] at HTK
          (have hYy : Y = y := by rw [hY]; unfold opOf; rw [hK]; rfl); clear hY; subst hYy
          obtain ⟨A1, hA1⟩ : ∃ A1, A1 = A0 ++ (gl.take j).map (opOf u) := ⟨_, rfl⟩
          rw [← hA1] at HI3 hln HTK hV2
          subst hV2
          have HI3v := HI3
          clear hy g1 g2 h4 hA1
          go_wp2_with (first
            | (go_at_call 23; refine c5.calls ?_)
            | (at_builtin; refine app_rows elemS rfl _ _ (by rfl) w wr _ rfl [_, _] [_] _ A1.length _ (by rfl) HI3.out.rows HI3.out.since #[.string Y] 1 1 (by rfl) rfl (by intro v9 hv9; simp at hv9; subst hv9; rfl) (by unfold maxLen; omega) (by omega) ?_; intro V3 w4 HR4 HS4 HK4; obtain ⟨A3, c3, hV3⟩ : ∃ A c, V3 = .slice A (A1.length + 1) c := own_any HR4.get; subst hV3; have HR4h := Lib.hid HR4; have HK4h := Lib.hid HK4; have HS4h := Lib.hid HS4; clear HR4 HK4 HS4 q0 q1 q2 m4)
            | (refine at_store (ty := 30) rfl ?_; refine store_rows rfl 30 _ _ rfl tS_one w w4 [] _ 30 1 w1.heap.size 1 1 _ HR4h.out HS4h.out 0 (by decide) (by rfl) (.slice A3 (A1.length + 1) c3) (by rfl) rfl ?_; intro w5 HR5 HS5 HK5; have HI5 := oi_grow HI3v HR4h.out HK4h.out HR5 HS5 HK5; clear HR5 HS5 HK5))
          go_roundw
          case rel => exact ⟨j + 1, _, by omega, by go_num, by rw [HTK.out]; exact HI5⟩
          case measure => simp [intOf]; omega
        · obtain rfl : j = k := by omega
          have HI4 := oi_drop HI3
          rw [HK.out, List.take_length, ← HSN.out] at HI4
          have hp9 : wr.iterPos (w1.heap.size + 1) = p + 1 := by simp [World.iterPos, HI4.out.it]
          clear HI3
          go_wp2_with fail
          go_roundw
          case rel => exact ⟨p + 1, _, by omega, HI4⟩
          case measure =>
            rw [hmu, hp9]
            omega
    · obtain rfl : p = X.size := by omega
      have hnx : ∀ ty, (Instr.next (.pointer (some ⟨(w1.heap.size + 1), 0, none⟩)) true ty).run Tryd.prog wr = .ok (.tuple #[.bool false]) wr := fun ty => Lib.run_next_end_at (P := Tryd.prog) wr (w1.heap.size + 1) X _ ty HI.out.it (by omega)
      have c8 := fun t => hdel wr w1.heap.size V _ t (oi_lt HI) (oi_cells HI).2.2 (oi_strs HI)
      have HS := Lib.hid HI.out.since
      clear HI
      go_wp2_with fail
      refine (ops_new _).mono ?_
      rintro r w2 ⟨t, rfl, rfl⟩
      go_wp2_with fail
      refine (c8 t).mono ?_
      rintro r w3 ⟨x, rfl, hx, h5⟩
      have HX := Lib.hid hx
      replace HS := Lib.hid (HS.out.step h5)
      clear hx h5 c8
      go_wp2_with fail
      go_ret
      exact ⟨_, rfl, HX.out, HS.out⟩
set_option maxRecDepth 100000 in
set_option maxHeartbeats 4000000 in
theorem ofn_0 (u m v e : ByteArray) (hm : (m.toList == [78]) = true) (X : ByteArray) (c2 : KMk Table.Tabs 21 #[.string u] (.string X)) (hX : X.size ≤ 20) (R : Nat → Nat) (k0 : (u.toList == [75, 48]) = true) (hK : isK u = true) (hdel : DelOf) (hdec : ∀ p, p < X.size → Utf8.decode X p = (R p, 1)) :
    MkOf 8 Table.Tabs u m v e (ops.filter (fun op => memB op (allL u ((List.range X.size).map fun j => (R j : Int))))) := by
  intro w hT
  have hp := Lib.hid (hb_new w Table.Tabs hT #[.string u, .string m, .string v, .string e] 24)
  obtain ⟨_, m0, m1, m2, m3⟩ := hb4 hp
  clear hT
  go_enter Tryd.func8, Tryd.ntmps8
  go_wp2_with fail
  refine c2.calls0 hp.out.tabs ?_
  intro w1 h1
  have HI := Lib.hid (oi_new2 w w1 u m v e X h1)
  have HGI := Lib.hid (show w.heap.size ≤ w1.heap.size + 1 from Nat.le_succ_of_le (Below.size (((Since.refl w).alloc _).step h1)))
  clear m0 m1 m2 m3 hp h1
  go_wp2_with fail
  obtain ⟨W0, hW0⟩ : ∃ W0, W0 = (w1.alloc (.cells #[.slice none 0 0] 30)).iter X 0 := ⟨_, rfl⟩
  rw [← hW0] at HI ⊢
  clear hW0
  have HD := Lib.hid hdec
  clear hdec
  go_loopw [6] (fun _ wr => ∃ (p : Nat) (V : Value), p ≤ X.size ∧ Hid (OI w w.heap.size w1.heap.size (w1.heap.size + 1) u m v e X p V (allL u ((List.range p).map fun j => (R j : Int))) [] wr)) (fun _ wr => X.size - wr.iterPos (w1.heap.size + 1))
  case atStart => exact ⟨0, _, by omega, HI⟩
  case round =>
    clear HI
    obtain ⟨p, V, hp, HI⟩ := hrel
    have hmu : wr.iterPos (w1.heap.size + 1) = p := by simp [World.iterPos, HI.out.it]
    by_cases hlt : p < X.size
    · have hnx : ∀ ty, (Instr.next (.pointer (some ⟨(w1.heap.size + 1), 0, none⟩)) true ty).run Tryd.prog wr = .ok (.tuple #[.bool true, .int .i64 (p : Int), .int .i32 (R p : Int)]) (wr.iterAt (w1.heap.size + 1) X (p + 1)) := fun ty => by
        have h := Lib.run_next_any_at (P := Tryd.prog) wr (w1.heap.size + 1) X p ty HI.out.it hlt
        rw [HD.out p hlt] at h
        exact h
      have HI1 := oi_next HI HGI.out (p + 1)
      generalize wr.iterAt (w1.heap.size + 1) X (p + 1) = W1 at hnx HI1
      have c3 := gn_mk (R p : Int)
      have hA := allL_len u ((List.range p).map fun j => (R j : Int))
      have hsn := allL_snoc u ((List.range p).map fun j => (R j : Int)) (R p : Int)
      have hrg : (List.range (p + 1)).map (fun j => (R j : Int)) = ((List.range p).map fun j => (R j : Int)) ++ [(R p : Int)] := by rw [List.range_succ, List.map_append]; rfl
      rw [← hrg] at hsn
      rw [List.length_map, List.length_range] at hA
      obtain ⟨A0, hA0⟩ : ∃ A0, A0 = allL u ((List.range p).map fun j => (R j : Int)) := ⟨_, rfl⟩
      obtain ⟨gl, hgl⟩ : ∃ gl, gl = grL (R p : Int) := ⟨_, rfl⟩
      have hg2 := grL_len (R p : Int)
      rw [← hA0] at HI1 hA hsn
      rw [← hgl] at c3 hsn hg2
      have HSN := Lib.hid hsn
      clear HI hA0 hgl hrg hsn
      go_wp2_with fail
      refine (c3 _).mono ?_
      rintro r w2 ⟨G, rfl, h2, hrw⟩
      have hR2 := hrw w.heap.size _ (Below.size HI1.out.since) HI1.out.rows
      have HI2 : Hid (OI w w.heap.size w1.heap.size (w1.heap.size + 1) u m v e X (p + 1) V A0 [sr G gl] w2) := Lib.hid ⟨hR2, HI1.out.since.step h2, (Below.block h2 _ (Array.getElem?_eq_some_iff.1 HI1.out.it).1).trans HI1.out.it⟩
      obtain ⟨Ga, Gc, hG, _⟩ := (oi_more HI2).slice
      subst hG
      obtain ⟨k, hk⟩ : ∃ k, k = gl.length := ⟨_, rfl⟩
      rw [← hk] at hg2
      have HK := Lib.hid hk
      clear c3 hnx HI1 hR2 hrw h2 hk
      rw [← HK.out]
      go_wp2_with fail
      go_loopw [29] (fun i wx => ∃ (j : Nat) (V2 : Value), j ≤ k ∧ i = .int .i64 (j : Int) ∧ Hid (OI w w.heap.size w1.heap.size (w1.heap.size + 1) u m v e X (p + 1) V2 (A0 ++ (gl.take j).map (opOf u)) [sr (.slice Ga k Gc) gl] wx)) (fun i _ => k - (intOf i).toNat)
      case atStart => exact ⟨0, V, by omega, rfl, by rw [List.take_zero, List.map_nil, List.append_nil, HK.out]; exact HI2⟩
      case round =>
        clear HI2
        obtain ⟨j, V2, hj, rfl, HI3⟩ := hrel
        by_cases hlj : j < k
        · obtain ⟨y, hy⟩ : ∃ y, gl[j]? = some y := ⟨gl[j]'(by rw [← HK.out]; exact hlj), List.getElem?_eq_getElem _⟩
          obtain ⟨b, o, c0, hv, _, _, _, h4⟩ := SlR.form (oi_more HI3) (by rw [← HK.out]; omega)
          have m4 := h4 j (.string y) (by rw [List.getElem?_map, hy]; rfl)
          rw [← HK.out] at hv
          cases hv
          obtain ⟨q0, q1, q2⟩ := oi_cells HI3
          obtain ⟨A2, c2, hV2⟩ := own_any (oi_own HI3)
          have hln : (A0 ++ (gl.take j).map (opOf u)).length ≤ 1000 := by
            rw [List.length_append, List.length_map, List.length_take]; omega
          obtain ⟨g1, g2⟩ := List.getElem?_eq_some_iff.1 hy
          have HTK := Lib.hid (show A0 ++ (gl.take (j + 1)).map (opOf u) = (A0 ++ (gl.take j).map (opOf u)) ++ [opOf u y] by
            rw [List.take_succ_eq_append_getElem g1, g2, List.map_append, List.append_assoc]; rfl)
          have i1 : (0 : Int) ≤ (j : Int) := by omega
          have i2 : (j : Int) < (k : Int) := by omega
          have c5 := key_ret y
          obtain ⟨Y, hY⟩ : ∃ Y, Y = opOf u y := ⟨_, rfl⟩
          rw [← hY] at HTK
          (have hYy : keyOp y = Y := by rw [hY]; unfold opOf; rw [hK]; rfl); clear hY; rw [hYy] at c5; clear hYy
          obtain ⟨A1, hA1⟩ : ∃ A1, A1 = A0 ++ (gl.take j).map (opOf u) := ⟨_, rfl⟩
          rw [← hA1] at HI3 hln HTK hV2
          subst hV2
          have HI3v := HI3
          clear hy g1 g2 h4 hA1
          go_wp2_with (first
            | (go_at_call 23; refine c5.calls ?_)
            | (at_builtin; refine app_rows elemS rfl _ _ (by rfl) w wr _ rfl [_, _] [_] _ A1.length _ (by rfl) HI3.out.rows HI3.out.since #[.string Y] 1 1 (by rfl) rfl (by intro v9 hv9; simp at hv9; subst hv9; rfl) (by unfold maxLen; omega) (by omega) ?_; intro V3 w4 HR4 HS4 HK4; obtain ⟨A3, c3, hV3⟩ : ∃ A c, V3 = .slice A (A1.length + 1) c := own_any HR4.get; subst hV3; have HR4h := Lib.hid HR4; have HK4h := Lib.hid HK4; have HS4h := Lib.hid HS4; clear HR4 HK4 HS4 q0 q1 q2 m4)
            | (refine at_store (ty := 30) rfl ?_; refine store_rows rfl 30 _ _ rfl tS_one w w4 [] _ 30 1 w1.heap.size 1 1 _ HR4h.out HS4h.out 0 (by decide) (by rfl) (.slice A3 (A1.length + 1) c3) (by rfl) rfl ?_; intro w5 HR5 HS5 HK5; have HI5 := oi_grow HI3v HR4h.out HK4h.out HR5 HS5 HK5; clear HR5 HS5 HK5))
          go_roundw
          case rel => exact ⟨j + 1, _, by omega, by go_num, by rw [HTK.out]; exact HI5⟩
          case measure => simp [intOf]; omega
        · obtain rfl : j = k := by omega
          have HI4 := oi_drop HI3
          rw [HK.out, List.take_length, ← HSN.out] at HI4
          have hp9 : wr.iterPos (w1.heap.size + 1) = p + 1 := by simp [World.iterPos, HI4.out.it]
          clear HI3
          go_wp2_with fail
          go_roundw
          case rel => exact ⟨p + 1, _, by omega, HI4⟩
          case measure =>
            rw [hmu, hp9]
            omega
    · obtain rfl : p = X.size := by omega
      have hnx : ∀ ty, (Instr.next (.pointer (some ⟨(w1.heap.size + 1), 0, none⟩)) true ty).run Tryd.prog wr = .ok (.tuple #[.bool false]) wr := fun ty => Lib.run_next_end_at (P := Tryd.prog) wr (w1.heap.size + 1) X _ ty HI.out.it (by omega)
      have c8 := fun t => hdel wr w1.heap.size V _ t (oi_lt HI) (oi_cells HI).2.2 (oi_strs HI)
      have HS := Lib.hid HI.out.since
      clear HI
      go_wp2_with fail
      refine (ops_new _).mono ?_
      rintro r w2 ⟨t, rfl, rfl⟩
      go_wp2_with fail
      refine (c8 t).mono ?_
      rintro r w3 ⟨x, rfl, hx, h5⟩
      have HX := Lib.hid hx
      replace HS := Lib.hid (HS.out.step h5)
      clear hx h5 c8
      go_wp2_with fail
      go_ret
      exact ⟨_, rfl, HX.out, HS.out⟩
set_option maxRecDepth 100000 in
set_option maxHeartbeats 4000000 in
theorem ofn_1 (u m v e : ByteArray) (hm : (m.toList == [78]) = true) (X : ByteArray) (c2 : KMk Table.Tabs 21 #[.string u] (.string X)) (hX : X.size ≤ 20) (R : Nat → Nat) (k0 : (u.toList == [75, 48]) = false) (k1 : (u.toList == [75, 49]) = true) (hK : isK u = true) (hdel : DelOf) (hdec : ∀ p, p < X.size → Utf8.decode X p = (R p, 1)) :
    MkOf 8 Table.Tabs u m v e (ops.filter (fun op => memB op (allL u ((List.range X.size).map fun j => (R j : Int))))) := by
  intro w hT
  have hp := Lib.hid (hb_new w Table.Tabs hT #[.string u, .string m, .string v, .string e] 24)
  obtain ⟨_, m0, m1, m2, m3⟩ := hb4 hp
  clear hT
  go_enter Tryd.func8, Tryd.ntmps8
  go_wp2_with fail
  refine c2.calls0 hp.out.tabs ?_
  intro w1 h1
  have HI := Lib.hid (oi_new2 w w1 u m v e X h1)
  have HGI := Lib.hid (show w.heap.size ≤ w1.heap.size + 1 from Nat.le_succ_of_le (Below.size (((Since.refl w).alloc _).step h1)))
  clear m0 m1 m2 m3 hp h1
  go_wp2_with fail
  obtain ⟨W0, hW0⟩ : ∃ W0, W0 = (w1.alloc (.cells #[.slice none 0 0] 30)).iter X 0 := ⟨_, rfl⟩
  rw [← hW0] at HI ⊢
  clear hW0
  have HD := Lib.hid hdec
  clear hdec
  go_loopw [6] (fun _ wr => ∃ (p : Nat) (V : Value), p ≤ X.size ∧ Hid (OI w w.heap.size w1.heap.size (w1.heap.size + 1) u m v e X p V (allL u ((List.range p).map fun j => (R j : Int))) [] wr)) (fun _ wr => X.size - wr.iterPos (w1.heap.size + 1))
  case atStart => exact ⟨0, _, by omega, HI⟩
  case round =>
    clear HI
    obtain ⟨p, V, hp, HI⟩ := hrel
    have hmu : wr.iterPos (w1.heap.size + 1) = p := by simp [World.iterPos, HI.out.it]
    by_cases hlt : p < X.size
    · have hnx : ∀ ty, (Instr.next (.pointer (some ⟨(w1.heap.size + 1), 0, none⟩)) true ty).run Tryd.prog wr = .ok (.tuple #[.bool true, .int .i64 (p : Int), .int .i32 (R p : Int)]) (wr.iterAt (w1.heap.size + 1) X (p + 1)) := fun ty => by
        have h := Lib.run_next_any_at (P := Tryd.prog) wr (w1.heap.size + 1) X p ty HI.out.it hlt
        rw [HD.out p hlt] at h
        exact h
      have HI1 := oi_next HI HGI.out (p + 1)
      generalize wr.iterAt (w1.heap.size + 1) X (p + 1) = W1 at hnx HI1
      have c3 := gn_mk (R p : Int)
      have hA := allL_len u ((List.range p).map fun j => (R j : Int))
      have hsn := allL_snoc u ((List.range p).map fun j => (R j : Int)) (R p : Int)
      have hrg : (List.range (p + 1)).map (fun j => (R j : Int)) = ((List.range p).map fun j => (R j : Int)) ++ [(R p : Int)] := by rw [List.range_succ, List.map_append]; rfl
      rw [← hrg] at hsn
      rw [List.length_map, List.length_range] at hA
      obtain ⟨A0, hA0⟩ : ∃ A0, A0 = allL u ((List.range p).map fun j => (R j : Int)) := ⟨_, rfl⟩
      obtain ⟨gl, hgl⟩ : ∃ gl, gl = grL (R p : Int) := ⟨_, rfl⟩
      have hg2 := grL_len (R p : Int)
      rw [← hA0] at HI1 hA hsn
      rw [← hgl] at c3 hsn hg2
      have HSN := Lib.hid hsn
      clear HI hA0 hgl hrg hsn
      go_wp2_with fail
      refine (c3 _).mono ?_
      rintro r w2 ⟨G, rfl, h2, hrw⟩
      have hR2 := hrw w.heap.size _ (Below.size HI1.out.since) HI1.out.rows
      have HI2 : Hid (OI w w.heap.size w1.heap.size (w1.heap.size + 1) u m v e X (p + 1) V A0 [sr G gl] w2) := Lib.hid ⟨hR2, HI1.out.since.step h2, (Below.block h2 _ (Array.getElem?_eq_some_iff.1 HI1.out.it).1).trans HI1.out.it⟩
      obtain ⟨Ga, Gc, hG, _⟩ := (oi_more HI2).slice
      subst hG
      obtain ⟨k, hk⟩ : ∃ k, k = gl.length := ⟨_, rfl⟩
      rw [← hk] at hg2
      have HK := Lib.hid hk
      clear c3 hnx HI1 hR2 hrw h2 hk
      rw [← HK.out]
      go_wp2_with fail
      go_loopw [29] (fun i wx => ∃ (j : Nat) (V2 : Value), j ≤ k ∧ i = .int .i64 (j : Int) ∧ Hid (OI w w.heap.size w1.heap.size (w1.heap.size + 1) u m v e X (p + 1) V2 (A0 ++ (gl.take j).map (opOf u)) [sr (.slice Ga k Gc) gl] wx)) (fun i _ => k - (intOf i).toNat)
      case atStart => exact ⟨0, V, by omega, rfl, by rw [List.take_zero, List.map_nil, List.append_nil, HK.out]; exact HI2⟩
      case round =>
        clear HI2
        obtain ⟨j, V2, hj, rfl, HI3⟩ := hrel
        by_cases hlj : j < k
        · obtain ⟨y, hy⟩ : ∃ y, gl[j]? = some y := ⟨gl[j]'(by rw [← HK.out]; exact hlj), List.getElem?_eq_getElem _⟩
          obtain ⟨b, o, c0, hv, _, _, _, h4⟩ := SlR.form (oi_more HI3) (by rw [← HK.out]; omega)
          have m4 := h4 j (.string y) (by rw [List.getElem?_map, hy]; rfl)
          rw [← HK.out] at hv
          cases hv
          obtain ⟨q0, q1, q2⟩ := oi_cells HI3
          obtain ⟨A2, c2, hV2⟩ := own_any (oi_own HI3)
          have hln : (A0 ++ (gl.take j).map (opOf u)).length ≤ 1000 := by
            rw [List.length_append, List.length_map, List.length_take]; omega
          obtain ⟨g1, g2⟩ := List.getElem?_eq_some_iff.1 hy
          have HTK := Lib.hid (show A0 ++ (gl.take (j + 1)).map (opOf u) = (A0 ++ (gl.take j).map (opOf u)) ++ [opOf u y] by
            rw [List.take_succ_eq_append_getElem g1, g2, List.map_append, List.append_assoc]; rfl)
          have i1 : (0 : Int) ≤ (j : Int) := by omega
          have i2 : (j : Int) < (k : Int) := by omega
          have c5 := key_ret y
          obtain ⟨Y, hY⟩ : ∃ Y, Y = opOf u y := ⟨_, rfl⟩
          rw [← hY] at HTK
          (have hYy : keyOp y = Y := by rw [hY]; unfold opOf; rw [hK]; rfl); clear hY; rw [hYy] at c5; clear hYy
          obtain ⟨A1, hA1⟩ : ∃ A1, A1 = A0 ++ (gl.take j).map (opOf u) := ⟨_, rfl⟩
          rw [← hA1] at HI3 hln HTK hV2
          subst hV2
          have HI3v := HI3
          clear hy g1 g2 h4 hA1
          go_wp2_with (first
            | (go_at_call 23; refine c5.calls ?_)
            | (at_builtin; refine app_rows elemS rfl _ _ (by rfl) w wr _ rfl [_, _] [_] _ A1.length _ (by rfl) HI3.out.rows HI3.out.since #[.string Y] 1 1 (by rfl) rfl (by intro v9 hv9; simp at hv9; subst hv9; rfl) (by unfold maxLen; omega) (by omega) ?_; intro V3 w4 HR4 HS4 HK4; obtain ⟨A3, c3, hV3⟩ : ∃ A c, V3 = .slice A (A1.length + 1) c := own_any HR4.get; subst hV3; have HR4h := Lib.hid HR4; have HK4h := Lib.hid HK4; have HS4h := Lib.hid HS4; clear HR4 HK4 HS4 q0 q1 q2 m4)
            | (refine at_store (ty := 30) rfl ?_; refine store_rows rfl 30 _ _ rfl tS_one w w4 [] _ 30 1 w1.heap.size 1 1 _ HR4h.out HS4h.out 0 (by decide) (by rfl) (.slice A3 (A1.length + 1) c3) (by rfl) rfl ?_; intro w5 HR5 HS5 HK5; have HI5 := oi_grow HI3v HR4h.out HK4h.out HR5 HS5 HK5; clear HR5 HS5 HK5))
          go_roundw
          case rel => exact ⟨j + 1, _, by omega, by go_num, by rw [HTK.out]; exact HI5⟩
          case measure => simp [intOf]; omega
        · obtain rfl : j = k := by omega
          have HI4 := oi_drop HI3
          rw [HK.out, List.take_length, ← HSN.out] at HI4
          have hp9 : wr.iterPos (w1.heap.size + 1) = p + 1 := by simp [World.iterPos, HI4.out.it]
          clear HI3
          go_wp2_with fail
          go_roundw
          case rel => exact ⟨p + 1, _, by omega, HI4⟩
          case measure =>
            rw [hmu, hp9]
            omega
    · obtain rfl : p = X.size := by omega
      have hnx : ∀ ty, (Instr.next (.pointer (some ⟨(w1.heap.size + 1), 0, none⟩)) true ty).run Tryd.prog wr = .ok (.tuple #[.bool false]) wr := fun ty => Lib.run_next_end_at (P := Tryd.prog) wr (w1.heap.size + 1) X _ ty HI.out.it (by omega)
      have c8 := fun t => hdel wr w1.heap.size V _ t (oi_lt HI) (oi_cells HI).2.2 (oi_strs HI)
      have HS := Lib.hid HI.out.since
      clear HI
      go_wp2_with fail
      refine (ops_new _).mono ?_
      rintro r w2 ⟨t, rfl, rfl⟩
      go_wp2_with fail
      refine (c8 t).mono ?_
      rintro r w3 ⟨x, rfl, hx, h5⟩
      have HX := Lib.hid hx
      replace HS := Lib.hid (HS.out.step h5)
      clear hx h5 c8
      go_wp2_with fail
      go_ret
      exact ⟨_, rfl, HX.out, HS.out⟩
end Us
end Go.Proofs.YtddlaafpianjbaaDoor

/- usage.Of: what slices.DeleteFunc makes of Ops. -/
namespace Go.Proofs.YtddlaafpianjbaaDoor
open Go.RowKit Go.Sort Go.Lib
namespace Us
set_option maxRecDepth 100000 in
theorem gives_of (l : List ByteArray) (x : ByteArray) (ga : Nat) (V : Value) (W : World) (hc : W.cell? ⟨ga, 0, none⟩ = some V) (hl : StrsS W V l) : Calls Tryd.prog 25 #[.string x, .pointer (some ⟨ga, 0, none⟩)] W fun e w' => e = .returned (.bool (!memB x l)) ∧ ∃ q, w' = W.drewN q := by
  have c1 := con_rd x l
  have HL := Lib.hid hl
  clear hl
  go_enter Tryd.func25, Tryd.ntmps25
  go_wp2_with fail
  refine RdC.calls c1 HL.out ?_
  go_wp2_with fail
  go_ret
  exact ⟨rfl, 0, rfl⟩
end Us
end Go.Proofs.YtddlaafpianjbaaDoor

/- usage.Of: slices.DeleteFunc on Ops. -/
namespace Go.Proofs.YtddlaafpianjbaaDoor
open Go.RowKit Go.Sort Go.Lib
namespace Us
theorem below_over {B : Nat} {w W : World} (h : Below B w W) (hB : B ≤ W.heap.size) (blk off : Nat) (hb : B ≤ blk) (m : Nat) (dk : Array ByteArray) (os : Array Obj) : Below B w (sortWorld Value.string W blk off m dk os) := by
  refine h.trans ⟨rfl, rfl, rfl, ?_, fun i hi => ?_⟩
  · simp [sortWorld, grow, putRow, mapBlock, Sort.ahead]
  · have h1 : i < W.heap.size := by omega
    have h2 : blk ≠ i := by omega
    simp [sortWorld, grow, putRow, mapBlock, Sort.ahead, Array.getElem?_append, h1, Array.getElem_modify, h2]
theorem holds_ops (w : World) (t : TypeId) : Holds Value.string (w.alloc (.cells opsA t)) w.heap.size 0 ops.toArray := by
  intro j hj
  have hj2 : j < ops.length := by simpa using hj
  have h1 : opsA[j]? = some (.string (ops.toArray[j]!)) := by
    unfold opsA
    rw [List.getElem?_toArray, List.getElem?_map, List.getElem?_eq_getElem hj2]
    simp [hj2]
  have hh := heap_alloc_new w (.cells opsA t)
  refine ⟨?_, frozen_of_row _ _ _ _ _ hh⟩
  unfold World.cell?
  rw [hh, Nat.zero_add]
  exact h1
set_option maxRecDepth 100000 in
theorem del_of : DelOf := by
  intro w ga V l t hga hc hl
  have eg : ∀ args w, (callFunc 25 args).run Tryd.prog w = .ok (.enter 25 args) w := enters_of Tryd.func25 (by kernel_rfl) rfl
  have hs : Since w (w.alloc (.cells opsA t)) := (Since.refl w).alloc _
  have key : ∀ W x, Below w.heap.size w W → FnGives Tryd.prog 25 #[.pointer (some ⟨ga, 0, none⟩)] #[Value.string x] (.bool (!memB x l)) W := fun W x hb => gives_of l x ga V W ((hb.cell (p := ⟨ga, 0, none⟩) hga).trans hc) (SlR.below hl hb)
  have h := Tryd.slices_DeleteFunc Value.string (fun _ => rfl) (fun x => !memB x l) 25 #[.pointer (some ⟨ga, 0, none⟩)] eg ⟨#[]⟩ Tryd.zeroValue9 w.heap.size 0 8 ops.toArray (w.alloc (.cells opsA t))
    (fun W x hb => key W x (hs.step hb)) (fun n os dk x _ => key _ x (below_over hs (by simp) _ _ (Nat.le_refl _) _ _ _)) (holds_ops w t) (by decide) (by decide)
  refine h.mono ?_
  rintro e w' ⟨rfl, q, rfl⟩
  have e1 : (ops.toArray.toList.filter fun x => !!memB x l) = ops.filter (fun op => memB op l) := by simp
  have hn : (ops.filter (fun op => memB op l)).length ≤ 8 := List.length_filter_le _ _
  rw [e1]
  obtain ⟨F, hF⟩ : ∃ F, F = ops.filter (fun op => memB op l) := ⟨_, rfl⟩
  rw [← hF] at hn ⊢
  obtain ⟨D, hD⟩ : ∃ D : Array ByteArray, D = (F ++ List.replicate (ops.toArray.size - F.length) (⟨#[]⟩ : ByteArray)).toArray := ⟨_, rfl⟩
  rw [← hD]
  have hDs : D.size = ops.toArray.size := by rw [hD]; simp; have : ops.length = 8 := rfl; omega
  refine ⟨_, rfl, (show SlR (putRow Value.string (Sort.ahead (w.alloc (.cells opsA t)) q) w.heap.size 0 D) 1 (.slice (some ⟨w.heap.size, 0, none⟩) F.length 8) F.length (F.map Value.string) from ⟨by simp, _, _, rfl, hn, by decide, Or.inr ⟨w.heap.size, 0, rfl, by simp [Sort.ahead], fun i u hu => ?_⟩⟩), ?_⟩
  · rw [List.getElem?_map] at hu
    obtain ⟨y, hy, rfl⟩ := Option.map_eq_some_iff.1 hu
    obtain ⟨g1, g2⟩ := List.getElem?_eq_some_iff.1 hy
    have hi : i < D.size := by rw [hDs]; have : ops.toArray.size = 8 := rfl; omega
    have h9 := cell?_putRow Value.string (Sort.ahead (w.alloc (.cells opsA t)) q) w.heap.size 0 ops.toArray D (holds_ops w t) hDs i hi
    rw [h9, getElem!_pos D i hi]
    congr 2
    subst hD
    simp [g1, g2]
  · have h9 := below_over hs (by simp) w.heap.size 0 (Nat.le_refl _) q D #[]
    unfold sortWorld at h9
    rw [grow_empty] at h9
    exact h9
end Us
end Go.Proofs.YtddlaafpianjbaaDoor

/- usage.Of: what the program collects is what the document permits. -/
namespace Go.Proofs.YtddlaafpianjbaaDoor
open Go.RowKit
namespace Us
def opK (k : Bool) (op : ByteArray) : ByteArray := if k then keyOp op else op
/-- what may be, if f says what a mode permits by itself -/
def mayK (k : Bool) (f : ByteArray → Bool) (op : ByteArray) : Bool :=
  if k then (if op = ⟨#[101, 110, 99, 114, 121, 112, 116]⟩ ∨ op = ⟨#[100, 101, 99, 114, 121, 112, 116]⟩ then false else if op = ⟨#[119, 114, 97, 112]⟩ then f ⟨#[101, 110, 99, 114, 121, 112, 116]⟩ else if op = ⟨#[117, 110, 119, 114, 97, 112]⟩ then f ⟨#[100, 101, 99, 114, 121, 112, 116]⟩ else f op) else f op
theorem may_k (u m op : ByteArray) : mayB u m op = mayK (isK u) (allB u m) op := by
  unfold mayB mayK
  rfl
def rn (n : Nat) : Int := if n < 128 then (n : Int) else 65533
theorem one_all : ∀ n : Fin 256, ∀ k : Bool, (ops.all fun op => memB op ((grL (rn n.val)).map (opK k)) == mayK k (saysB ⟨#[UInt8.ofNat n.val]⟩) op) = true := by decide +kernel
theorem dec_one : ∀ n : Fin 256, Utf8.decode ⟨#[UInt8.ofNat n.val]⟩ 0 = (if n.val < 128 then n.val else 65533, 1) := by decide +kernel
theorem n_all : ∀ r ∈ Table.none3 :: Table.rows, ∀ k : Bool, (ops.all fun op => memB op ((r.2.2.map fun c => (c.toNat : Int)).flatMap (fun c => (grL c).map (opK k))) == mayK k (fun o => (List.range r.2.2.length).any (fun i => saysB ⟨#[r.2.2.getD i 0]⟩ o)) op) = true := by decide +kernel
set_option maxRecDepth 100000 in
theorem of_no (u m v e : ByteArray) (hm : (m.toList == [78]) = false) (h1 : m.size ≠ 1) : MkOf 8 Table.Tabs u m v e [] := by
  intro w hT
  have t1 : ((m.size : Int) != 1) = true := by rw [bne_iff_ne]; omega
  have t2 : ((m.size : Int) == 1) = false := beq_eq_false_iff_ne.2 (by omega)
  have hp := Lib.hid (hb_new w KT trivial #[.string u, .string m, .string v, .string e] 24)
  obtain ⟨_, m0, m1, m2, m3⟩ := hb4 hp
  clear hT
  go_enter Tryd.func8, Tryd.ntmps8
  go_wp2_with fail
  go_ret
  exact ⟨_, rfl, StrsS.nil _, hp.out.since⟩
theorem says_no (m op : ByteArray) (h : m.size ≠ 1) : saysB m op = false := by
  unfold saysB
  rw [List.any_eq_false]
  intro c _ h2
  have h3 := of_decide_eq_true h2
  rw [h3] at h
  exact h rfl
end Us
end Go.Proofs.YtddlaafpianjbaaDoor

/- usage.Of, whole. -/
namespace Go.Proofs.YtddlaafpianjbaaDoor
open Go.RowKit
namespace Us
theorem eq_one (u : ByteArray) (b : UInt8) (hN : (⟨#[b]⟩ : ByteArray) ≠ ⟨#[78]⟩) (op : ByteArray) (ho : op ∈ ops) : memB op (allL u [rn b.toNat]) = mayB u ⟨#[b]⟩ op := by
  have h := List.all_eq_true.1 (one_all ⟨b.toNat, b.toNat_lt⟩ (isK u)) op ho
  have h2 := eq_of_beq h
  have e1 : UInt8.ofNat b.toNat = b := by simp
  simp only [e1] at h2
  rw [may_k]
  have e2 : allB u ⟨#[b]⟩ = saysB ⟨#[b]⟩ := funext fun o => by unfold allB; rw [if_neg hN]
  rw [e2, ← h2]
  have e3 : allL u [rn b.toNat] = (grL (rn b.toNat)).map (opK (isK u)) := by
    unfold allL
    rw [List.flatMap_singleton]
    rfl
  rw [e3]
theorem of_1 (u m v e : ByteArray) (hN : m ≠ ⟨#[78]⟩) (h1 : m.size = 1) : MkOf 8 Table.Tabs u m v e (ops.filter (mayB u m)) := by
  obtain ⟨b, rfl⟩ : ∃ b, m = ⟨#[b]⟩ := by
    obtain ⟨⟨l⟩⟩ := m
    match l, h1 with
    | [b], _ => exact ⟨b, rfl⟩
  have hd : ∀ p, p < (⟨#[b]⟩ : ByteArray).size → Utf8.decode ⟨#[b]⟩ p = ((fun _ : Nat => if b.toNat < 128 then b.toNat else 65533) p, 1) := fun p hp => by
    have hp1 : (⟨#[b]⟩ : ByteArray).size = 1 := rfl
    obtain rfl : p = 0 := by omega
    have h := dec_one ⟨b.toNat, b.toNat_lt⟩
    have e1 : UInt8.ofNat b.toNat = b := by simp
    simp only [e1] at h
    exact h
  have e4 : ops.filter (fun op => memB op (allL u ((List.range (⟨#[b]⟩ : ByteArray).size).map fun j => (((fun _ : Nat => if b.toNat < 128 then b.toNat else 65533) j : Nat) : Int)))) = ops.filter (mayB u ⟨#[b]⟩) := by
    refine List.filter_congr fun op ho => ?_
    have e5 : ((List.range (⟨#[b]⟩ : ByteArray).size).map fun j => (((fun _ : Nat => if b.toNat < 128 then b.toNat else 65533) j : Nat) : Int)) = [rn b.toNat] := by
      show [(((if b.toNat < 128 then b.toNat else 65533) : Nat) : Int)] = _
      unfold rn
      split <;> rfl
    rw [e5]
    exact eq_one u b hN op ho
  rw [← e4]
  by_cases a0 : u = ⟨#[75, 48]⟩
  · exact of1_0 u _ v e (lF hN) h1 _ (lT a0) (by unfold isK; rw [decide_eq_true a0]; rfl) del_of hd
  · by_cases a1 : u = ⟨#[75, 49]⟩
    · exact of1_1 u _ v e (lF hN) h1 _ (lF a0) (lT a1) (by unfold isK; rw [decide_eq_true a1, Bool.or_true]) del_of hd
    · exact of1_n u _ v e (lF hN) h1 _ (lF a0) (lF a1) (by unfold isK; rw [decide_eq_false a0, decide_eq_false a1]; rfl) del_of hd
end Us
end Go.Proofs.YtddlaafpianjbaaDoor

/- usage.Of for the mode N, and for all heads. -/
namespace Go.Proofs.YtddlaafpianjbaaDoor
open Go.RowKit
namespace Us
theorem one_ext (X : ByteArray) (k : Nat) (hk : k < X.size) : X.extract k (k + 1) = ⟨#[X.data.toList.getD k 0]⟩ := by
  have hl : k < X.data.toList.length := hk
  have hk2 : k < X.data.size := hk
  apply ba_ext
  show (X.extract k (k + 1)).data.toList = [X.data.toList.getD k 0]
  rw [ByteArray.data_extract, Array.toList_extract, List.extract_eq_take_drop, Nat.add_sub_cancel_left, List.drop_eq_getElem_cons hl]
  simp [List.getD]
  rw [Array.getElem?_eq_getElem hk2, Option.getD_some]
theorem dec_cap (X : ByteArray) (h : ∀ c ∈ X.data.toList, 65 ≤ c.toNat ∧ c.toNat ≤ 90) (p : Nat) (hp : p < X.size) : Utf8.decode X p = ((X.data.toList.getD p 0).toNat, 1) := by
  have hl : p < X.data.toList.length := hp
  have hp2 : p < X.data.size := hp
  have e0 : X[p] = X.data.toList[p] := rfl
  have e : X[p] = X.data.toList.getD p 0 := by
    rw [e0]
    simp [List.getD]
    rw [Array.getElem?_eq_getElem hp2, Option.getD_some]
  have hm : X[p] ∈ X.data.toList := by rw [e0]; exact List.getElem_mem hl
  rw [decode_ascii X p hp (by have := (h _ hm).2; omega), e]
theorem eq_n (u : ByteArray) (op : ByteArray) (ho : op ∈ ops) : memB op (allL u ((List.range (modesX u).size).map fun j => ((((modesX u).data.toList.getD j 0).toNat : Nat) : Int))) = mayB u ⟨#[78]⟩ op := by
  obtain ⟨r, hr⟩ : ∃ r, r = Table.lineL u.data.toList := ⟨_, rfl⟩
  have hm : r ∈ Table.none3 :: Table.rows := by rw [hr]; exact line_mem _
  have hX : (modesX u).data.toList = r.2.2 := by rw [hr]; exact modes_list u
  have hs : (modesX u).size = r.2.2.length := by rw [← hX]; rfl
  have h2 := eq_of_beq (List.all_eq_true.1 (n_all r hm (isK u)) op ho)
  have e2 : allB u ⟨#[78]⟩ = fun o => (List.range r.2.2.length).any (fun i => saysB ⟨#[r.2.2.getD i 0]⟩ o) := funext fun o => by
    unfold allB
    rw [if_pos rfl, hs]
    rw [Bool.eq_iff_iff, List.any_eq_true, List.any_eq_true]
    constructor
    · rintro ⟨k, hk, h9⟩
      rw [one_ext _ k (by rw [hs]; exact List.mem_range.1 hk), hX] at h9
      exact ⟨k, hk, h9⟩
    · rintro ⟨k, hk, h9⟩
      refine ⟨k, hk, ?_⟩
      rw [one_ext _ k (by rw [hs]; exact List.mem_range.1 hk), hX]
      exact h9
  have e3 : ((List.range (modesX u).size).map fun j => ((((modesX u).data.toList.getD j 0).toNat : Nat) : Int)) = r.2.2.map fun c => (c.toNat : Int) := by
    rw [hX, hs]
    apply List.ext_getElem (by simp)
    intro i h3 h4
    have h5 : i < r.2.2.length := by simpa using h4
    simp [List.getD, h5]
  rw [may_k, e2, ← h2, e3]
  rfl
theorem of_N (u m v e : ByteArray) (hN : m = ⟨#[78]⟩) : MkOf 8 Table.Tabs u m v e (ops.filter (mayB u m)) := by
  subst hN
  have c2 := Table.modes_k u (modesX u) rfl
  have hd := dec_cap (modesX u) (modes_cap u)
  rw [← List.filter_congr (eq_n u)]
  by_cases a0 : u = ⟨#[75, 48]⟩
  · exact ofn_0 u _ v e (lT rfl) _ c2 (modes_small u) (fun j => ((modesX u).data.toList.getD j 0).toNat) (lT a0) (by unfold isK; rw [decide_eq_true a0]; rfl) del_of hd
  · by_cases a1 : u = ⟨#[75, 49]⟩
    · exact ofn_1 u _ v e (lT rfl) _ c2 (modes_small u) (fun j => ((modesX u).data.toList.getD j 0).toNat) (lF a0) (lT a1) (by unfold isK; rw [decide_eq_true a1, Bool.or_true]) del_of hd
    · exact ofn_n u _ v e (lT rfl) _ c2 (modes_small u) (fun j => ((modesX u).data.toList.getD j 0).toNat) (lF a0) (lF a1) (by unfold isK; rw [decide_eq_false a0, decide_eq_false a1]; rfl) del_of hd
theorem of_k (u m v e : ByteArray) : MkOf 8 Table.Tabs u m v e (ops.filter (mayB u m)) := by
  by_cases hN : m = ⟨#[78]⟩
  · exact of_N u m v e hN
  · by_cases h1 : m.size = 1
    · exact of_1 u m v e hN h1
    · have e : ops.filter (mayB u m) = [] := by
        rw [List.filter_eq_nil_iff]
        intro op _
        have e2 : allB u m = fun _ => false := funext fun o => by unfold allB; rw [if_neg hN]; exact says_no m o h1
        rw [may_k, e2]
        unfold mayK
        repeat' split
        all_goals simp
      rw [e]
      exact of_no u m v _ (lF hN) h1
end Us
end Go.Proofs.YtddlaafpianjbaaDoor

/- What the laws of usage call awake. -/
namespace Go.Proofs.YtddlaafpianjbaaDoor
open Go.RowKit
namespace Us
open Att
def H4 (u m v e : ByteArray) : Array Value := #[.string u, .string m, .string v, .string e]
set_option maxRecDepth 100000 in
theorem h4_info (u m v e : ByteArray) : (Tryd.prog.info? 24).map (·.size) = some (H4 u m v e).size := by kernel_rfl
theorem h4_one (u m v e : ByteArray) : (H4 u m v e).all (·.oneCell') = true := by
  rw [Array.all_eq_true]
  intro i hi
  match i, hi with
  | 0, _ | 1, _ | 2, _ | 3, _ => rfl
theorem hb_row {w W : World} {K : World → Prop} [Kp K] {g : Nat} {C C' : Array Value} {t : TypeId} (hs : Since w W) (hg : w.heap.size ≤ g) (hT : K w) (hr : W.heap[g]? = some (.cells C t (0, 0))) : HB w K g C' (W.setRow g C') := by
  have h := setRow_heap W g C C' t (0, 0) hr
  have hl := (Array.getElem?_eq_some_iff.1 h).1
  refine ⟨below_setRow hs hg _, Kp.keep hT (below_setRow hs hg _), fun i v hv => ?_, hl⟩
  show World.cell? _ _ = _
  simp [World.cell?, h, hv]
def opW : ByteArray := ⟨#[119, 114, 97, 112]⟩
def opU : ByteArray := ⟨#[117, 110, 119, 114, 97, 112]⟩
def opS : ByteArray := ⟨#[115, 105, 103, 110]⟩
theorem aw_of : ops.filter (mayB ⟨#[75, 48]⟩ ⟨#[66]⟩) = [opW, opU] := by decide +kernel
theorem aw_may : mayE ⟨#[75, 48]⟩ ⟨#[66]⟩ ⟨#[48, 48]⟩ ⟨#[69]⟩ opW = 0 := by decide +kernel
theorem aw_sign : mayE ⟨#[75, 48]⟩ ⟨#[66]⟩ ⟨#[48, 48]⟩ ⟨#[69]⟩ opS = 14 := by decide +kernel
theorem aw_exp : expV ⟨#[75, 48]⟩ ⟨#[66]⟩ ⟨#[48, 48]⟩ ⟨#[69]⟩ [] = ⟨#[69]⟩ := by decide +kernel
theorem aw_lea : leaE ⟨#[69]⟩ false = 14 := by decide +kernel
set_option maxRecDepth 100000 in
set_option maxHeartbeats 8000000 in
theorem awake_core (c1 : MkOf 8 Table.Tabs ⟨#[75, 48]⟩ ⟨#[66]⟩ ⟨#[48, 48]⟩ ⟨#[69]⟩ [⟨#[119, 114, 97, 112]⟩, ⟨#[117, 110, 119, 114, 97, 112]⟩])
    (c3 : RdK Table.Tabs 12 [] (fun x => #[rv 0 ⟨#[]⟩ ⟨#[75, 48]⟩ ⟨#[66]⟩ ⟨#[48, 48]⟩ ⟨#[69]⟩ x, .string ⟨#[119, 114, 97, 112]⟩]) (.int .i64 0))
    (c4 : RdK Table.Tabs 12 [] (fun x => #[rv 0 ⟨#[]⟩ ⟨#[75, 48]⟩ ⟨#[66]⟩ ⟨#[48, 48]⟩ ⟨#[69]⟩ x, .string ⟨#[115, 105, 103, 110]⟩]) (.int .i64 14))
    (c5 : RdA 16 [] (fun x => #[rv 0 ⟨#[]⟩ ⟨#[75, 48]⟩ ⟨#[66]⟩ ⟨#[48, 48]⟩ ⟨#[69]⟩ x, .bool false]) (.int .i64 14))
    (c6 : RdA 14 [] (fun x => #[rv 0 ⟨#[]⟩ ⟨#[75, 48]⟩ ⟨#[66]⟩ ⟨#[48, 48]⟩ ⟨#[69]⟩ x]) (.string ⟨#[69]⟩)) : KMk Table.Tabs 6 #[] (.bool true) := by
  intro w hT
  have r1 : (w.alloc (.cells (H4 ⟨#[]⟩ ⟨#[]⟩ ⟨#[]⟩ ⟨#[]⟩) 24)).heap[w.heap.size]? = some (.cells (H4 ⟨#[]⟩ ⟨#[]⟩ ⟨#[]⟩ ⟨#[]⟩) 24 (0, 0)) := heap_alloc_new w _
  have hp := Lib.hid (hb_row (C' := H4 ⟨#[75, 48]⟩ ⟨#[66]⟩ ⟨#[48, 48]⟩ ⟨#[69]⟩) ((Since.refl w).alloc _) (Nat.le_refl _) hT r1)
  clear hT
  have ia := h4_info ⟨#[75, 48]⟩ ⟨#[66]⟩ ⟨#[48, 48]⟩ ⟨#[69]⟩
  have io := h4_one ⟨#[75, 48]⟩ ⟨#[66]⟩ ⟨#[48, 48]⟩ ⟨#[69]⟩
  unfold H4 at r1 hp ia io
  obtain ⟨_, m0, m1, m2, m3⟩ := hb4 hp
  go_enter Tryd.func6, Tryd.ntmps6
  go_wp2_with (refine wpList_store_row rfl 24 _ _ rfl w.heap.size #[.string ⟨#[75, 48]⟩, .string ⟨#[66]⟩, .string ⟨#[48, 48]⟩, .string ⟨#[69]⟩] (by rfl) (by rfl) _ _ r1 ia rfl io ?_)
  clear m0 m1 m2 m3 r1 ia io
  generalize World.setRow _ _ _ = W0 at hp ⊢
  refine (c1 _ hp.out.tabs).mono ?_
  rintro r w1 ⟨V, rfl, hv, h1⟩
  replace hp := hbstep h1 hp
  clear h1
  have hs := hv
  obtain ⟨A, q, rfl, -, -⟩ := SlR.slice hs
  clear hs
  go_wp2_with fail
  have hal : Since w1 (w1.alloc (.cells #[.string ⟨#[119, 114, 97, 112]⟩, .string ⟨#[117, 110, 119, 114, 97, 112]⟩] 9)) := (Since.refl w1).alloc _
  have hlit : StrsS (w1.alloc (.cells #[.string ⟨#[119, 114, 97, 112]⟩, .string ⟨#[117, 110, 119, 114, 97, 112]⟩] 9)) (.slice (some ⟨w1.heap.size, 0, none⟩) 2 2) [⟨#[119, 114, 97, 112]⟩, ⟨#[117, 110, 119, 114, 97, 112]⟩] := SlR.lit w1 1 2 [.string ⟨#[119, 114, 97, 112]⟩, .string ⟨#[117, 110, 119, 114, 97, 112]⟩] rfl (by decide) #[.string ⟨#[119, 114, 97, 112]⟩, .string ⟨#[117, 110, 119, 114, 97, 112]⟩] rfl 9
  have heq := EqS.equals _ _ _ _ _ (SlR.since hv hal) hlit
  rw [decide_eq_true rfl] at heq
  replace hp := hbstep hal hp
  clear hlit hal hv
  refine heq.mono ?_
  rintro r w2 ⟨rfl, h2⟩
  clear heq
  replace hp := hbstep h2 hp
  clear h2
  go_wp2_with fail
  refine (ops_mk _).mono ?_
  rintro r w3 ⟨V, rfl, hv, h3⟩
  replace hp := hbstep h3 hp
  clear h3
  obtain ⟨A3, q3, rfl, -, -⟩ := SlR.slice hv
  have e8 : (ops.length : Int) = 8 := rfl
  have e9 : ops.length = 8 := rfl
  rw [e9]
  clear hv e8
  obtain ⟨_, m0, m1, m2, m3⟩ := hb4 hp
  go_wp2_with fail
  clear m0 m1 m2 m3
  refine RdK.calls0 c3 hp.out.tabs (AttsS.nil _) ?_
  intro w4 h4
  replace hp := hbstep h4 hp
  clear h4
  obtain ⟨_, m0, m1, m2, m3⟩ := hb4 hp
  go_wp2_with fail
  clear m0 m1 m2 m3
  refine RdK.calls0 c4 hp.out.tabs (AttsS.nil _) ?_
  intro w5 h5
  replace hp := hbstep h5 hp
  clear h5
  obtain ⟨_, m0, m1, m2, m3⟩ := hb4 hp
  go_wp2_with fail
  clear m0 m1 m2 m3
  refine RdA.calls0 c5 (AttsS.nil _) ?_
  intro w6 h6
  replace hp := hbstep h6 hp
  clear h6
  obtain ⟨_, m0, m1, m2, m3⟩ := hb4 hp
  go_wp2_with fail
  clear m0 m1 m2 m3
  refine RdA.calls0 c6 (AttsS.nil _) ?_
  intro w7 h7
  replace hp := hbstep h7 hp
  clear h7
  obtain ⟨_, m0, m1, m2, m3⟩ := hb4 hp
  go_wp2_with fail
  go_ret
  exact ⟨rfl, hp.out.since⟩
theorem awake_k : KMk Table.Tabs 6 #[] (.bool true) := by
  have c1 := of_k ⟨#[75, 48]⟩ ⟨#[66]⟩ ⟨#[48, 48]⟩ ⟨#[69]⟩
  have c3 := may_rd 0 ⟨#[]⟩ ⟨#[75, 48]⟩ ⟨#[66]⟩ ⟨#[48, 48]⟩ ⟨#[69]⟩ [] opW c1
  have c4 := may_rd 0 ⟨#[]⟩ ⟨#[75, 48]⟩ ⟨#[66]⟩ ⟨#[48, 48]⟩ ⟨#[69]⟩ [] opS c1
  have c5 := lea_rd 0 ⟨#[]⟩ ⟨#[75, 48]⟩ ⟨#[66]⟩ ⟨#[48, 48]⟩ ⟨#[69]⟩ [] false
  have c6 := exp_rd 0 ⟨#[]⟩ ⟨#[75, 48]⟩ ⟨#[66]⟩ ⟨#[48, 48]⟩ ⟨#[69]⟩ []
  rw [aw_of] at c1
  rw [aw_may] at c3
  rw [aw_sign] at c4
  rw [aw_exp, aw_lea] at c5
  rw [aw_exp] at c6
  exact awake_core c1 c3 c4 c5 c6
end Us
end Go.Proofs.YtddlaafpianjbaaDoor
