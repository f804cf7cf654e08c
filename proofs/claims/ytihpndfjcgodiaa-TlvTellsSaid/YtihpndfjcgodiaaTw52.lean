/- Joined texts. -/
-- PACK: YtihpndfjcgodiaaTlvK YtihpndfjcgodiaaTlvD YtihpndfjcgodiaaTlvAwake YtihpndfjcgodiaaTlvE YtihpndfjcgodiaaTlvP YtihpndfjcgodiaaTlvNm YtihpndfjcgodiaaRefTlvM YtihpndfjcgodiaaRefTlvP
import Derived.Test.YtihpndfjcgodiaaTw51
import Derived.Test.YtihpndfjcgodiaaTw48
import Derived.BigQuiet
import Derived.BigGuardPart
import Derived.Deep.AppendLies
import Derived.Test.YtihpndfjcgodiaaTw44

/- Package tlv: walk, whatever it is handed. -/
namespace Go.Proofs.Ytihpndfjcgodiaa
open Go.RowKit
namespace Tlv
open Span Flt Rw
set_option maxRecDepth 100000 in
theorem wpost_mak {w : World} {s : ByteArray} {c p : Nat} {x y : Int} (ht : top Strs.rightB s = .error (c, p)) (hx : x = (c : Int)) (hy : y = (p : Int)) (h : Mak 35 #[.string s] (fltV x y)) : Calls Try.prog 35 #[.string s] w (WPost w s) := by
  subst hx hy
  refine (h w).mono ?_
  rintro _ w' ⟨rfl, hs⟩
  exact wpost_err ht hs
theorem top_empty : top Strs.rightB ⟨#[]⟩ = .error (3, 0) := rfl
set_option maxRecDepth 100000 in
theorem walk_any (w : World) (s : ByteArray) (hm : s.size ≤ maxLen) : Calls Try.prog 35 #[.string s] w (WPost w s) := by
  by_cases h0 : s.size = 0
  · obtain rfl : s = ⟨#[]⟩ := by
      apply ByteArray.ext
      exact Array.eq_empty_of_size_eq_zero h0
    exact wpost_mak top_empty rfl rfl walk_empty
  have h0' : 0 < s.size := by omega
  by_cases h1 : 65535 < s.size
  · have ht : top Strs.rightB s = .error (4, 0) := by
      unfold top one
      rw [if_neg (by omega), if_pos h1]
    exact wpost_mak ht rfl rfl (walk_long s h1 hm)
  have hs : s.size ≤ 65535 := by omega
  have c0 : Ret 16 #[.int .i64 0, .int .i64 (s.size : Int)] (.complex .f64 (fl ((0 : Nat) : Int)) (fl (s.size : Int))) := of_yes 0 s.size ⟨by omega, by omega⟩
  have c2 : Ret 38 #[.complex .f64 (fl ((0 : Nat) : Int)) (fl (s.size : Int))] (.int .i64 0) := from_ret 0 s.size ⟨by omega, by omega⟩
  have c1 := meas_mak s 0 s.size (by omega) (Nat.le_refl _) hs
  obtain ⟨hh, k, x, hq⟩ : ∃ hh k x, Head.dec (s.extract 0 s.size).data.toList = (hh, k, x) := ⟨_, _, _, rfl⟩
  have hlk := look_dec s 0 s.size 1 0 hh k x hq
  unfold measV at c1
  rw [hq] at c1
  dsimp only at c1
  by_cases hx : x ≠ 0
  · rw [if_pos hx] at c1 hlk
    exact wpost_mak (top_err h0' hs x hlk) rfl rfl (walk_e0 s h0' hs _ _ (x : Int) (by rw [bne_iff_ne]; omega) c0 c1 c2)
  rw [if_neg hx] at c1 hlk
  by_cases hf : s.size - 0 < k + hh.n
  · rw [if_pos hf] at c1 hlk
    exact wpost_mak (top_err h0' hs 5 hlk) rfl rfl (walk_e0 s h0' hs _ _ 5 (by decide) c0 c1 c2)
  rw [if_neg hf] at c1 hlk
  obtain rfl : x = 0 := by omega
  obtain ⟨g1, g2, g3, g4, g5⟩ := Head.enc_dec _ _ _ hq
  have gl : (Head.encL hh.c hh.t hh.b hh.n).length = k := by rw [g5, List.length_take]; omega
  have gk := (Head.encL_len hh.c hh.t hh.b hh.n).1
  have c3 := total_ret k hh.n (by omega) (by omega)
  have c4 := split_ret 0 s.size (k + hh.n) (by omega) (by omega) (0 + k + hh.n) (by omega)
  have v1 : ∀ w, (convert 66 3 (.float .f64 (fl (k : Int)))).run Try.prog w = .ok (.int .i64 (k : Int)) w := fun w => conv_fi (fl (k : Int)) (k : Int) (fl_is _ (by omega)) (by omega) w
  have c5 := split_ret 0 (0 + k + hh.n) k (by omega) (by omega) (0 + k) (by omega)
  have c6 := cut_pe s (0 + k) (0 + k + hh.n) (by omega) (by omega) hs
  have hDs : (s.extract (0 + k) (0 + k + hh.n)).size ≤ 1000000 := by rw [ByteArray.size_extract]; omega
  cases hb : hh.b with
  | true =>
    rw [hb] at c1
    by_cases hE0 : judE (hh.c : Int) (hh.t : Int) hh.b (datB s 0 k hh) ((1 : Nat) : Int) ((0 : Nat) : Int) = 0
    · rw [if_pos hE0] at hlk
      exact walk_loop w s h0' hs hh k hlk hb
    · rw [if_neg hE0] at hlk
      have c7 := jud_mak (hh.c : Int) (hh.t : Int) true ⟨#[]⟩ 1 0 (by decide)
      have e1 : judE (hh.c : Int) (hh.t : Int) hh.b (datB s 0 k hh) ((1 : Nat) : Int) ((0 : Nat) : Int) = judE (hh.c : Int) (hh.t : Int) true ⟨#[]⟩ 1 0 := by
        unfold datB
        rw [hb, if_pos rfl]
        rfl
      rw [e1] at hE0 hlk
      have hEn : ((judE (hh.c : Int) (hh.t : Int) true ⟨#[]⟩ 1 0).toNat : Int) = judE (hh.c : Int) (hh.t : Int) true ⟨#[]⟩ 1 0 := Int.toNat_of_nonneg (by unfold judE; (repeat' split) <;> decide)
      exact wpost_mak (top_err h0' hs _ hlk) hEn.symm rfl (walk_e1c s _ h0' hs _ _ _ _ _ _ _ _ _ _ _ _ (by rw [bne_iff_ne]; exact hE0) c0 c1 c2 c3 c4 v1 c5 c6 c7)
  | false =>
    rw [hb] at c1
    have c7 := jud_mak (hh.c : Int) (hh.t : Int) false (s.extract (0 + k) (0 + k + hh.n)) 1 0 hDs
    have e1 : judE (hh.c : Int) (hh.t : Int) hh.b (datB s 0 k hh) ((1 : Nat) : Int) ((0 : Nat) : Int) = judE (hh.c : Int) (hh.t : Int) false (s.extract (0 + k) (0 + k + hh.n)) 1 0 := by
      unfold datB
      rw [hb, if_neg (by decide)]
      rfl
    rw [e1] at hlk
    by_cases hE0 : judE (hh.c : Int) (hh.t : Int) false (s.extract (0 + k) (0 + k + hh.n)) 1 0 = 0
    · rw [if_pos hE0] at hlk
      rw [hE0] at c7
      have hM := mid_first_prim h0' hs hh k hlk hb
      have hG := good_end hM.good
      have c9 := from_ret (0 + k + hh.n) s.size ⟨by omega, by omega⟩
      by_cases hP : 0 + k + hh.n < s.size
      · exact wpost_mak (hG.1 hP) rfl rfl (walk_pf s _ h0' hs _ _ _ _ (0 + k + hh.n) s.size _ _ _ _ _ c0 c1 (decide_eq_true hP) c9 c2 c3 c4 v1 c5 c6 c7)
      · obtain ⟨g, t1, t2, t3⟩ := hG.2 hP
        refine (walk_pt s _ h0' hs _ _ _ _ (0 + k + hh.n) s.size _ _ _ _ _ c0 c1 (decide_eq_false hP) c9 c2 c3 c4 v1 c5 c6 c7 w).mono ?_
        rintro _ w' ⟨tv, sv, rfl, hR, hS⟩
        unfold WPost
        rw [t1]
        refine ⟨tv, sv, .slice none 0 0, [(⟨hh.c, hh.t, false, s.extract (0 + k) (0 + k + hh.n), []⟩, .slice none 0 0)], rfl, ?_, t2, hS⟩
        rw [← t3]
        exact hR.add_nil 3 1
    · rw [if_neg hE0] at hlk
      have hEn : ((judE (hh.c : Int) (hh.t : Int) false (s.extract (0 + k) (0 + k + hh.n)) 1 0).toNat : Int) = judE (hh.c : Int) (hh.t : Int) false (s.extract (0 + k) (0 + k + hh.n)) 1 0 := Int.toNat_of_nonneg (by unfold judE; (repeat' split) <;> decide)
      exact wpost_mak (top_err h0' hs _ hlk) hEn.symm rfl (walk_e1p s _ h0' hs _ _ _ _ _ _ _ _ _ _ _ _ (by rw [bne_iff_ne]; exact hE0) c0 c1 c2 c3 c4 v1 c5 c6 c7)
end Tlv
end Go.Proofs.Ytihpndfjcgodiaa

/- Package tlv: Decode and Spans; trees that are read. -/
namespace Go.Proofs.Ytihpndfjcgodiaa
open Go.RowKit
namespace Tlv
open Span Flt Rw
/-- v is a slice of nodes -/
def NodesS (w : World) (v : Value) (ns : List (Nd × Value)) : Prop := SlR w 5 v ns.length (ns.flatMap nc) ∧ ∀ x ∈ ns, IntsS w x.2 x.1.k
def TreeS (w : World) (v : Value) (N : List Nd) : Prop := ∃ ns, NodesS w v ns ∧ ns.map Prod.fst = N
def SpansS (w : World) (v : Value) (sp : List (Nat × Nat)) : Prop := SlR w 1 v sp.length (sp.map (fun p => .complex .f64 (fl (p.1 : Int)) (fl (p.2 : Int))))
theorem NodesS.since {w w' : World} {v : Value} {ns : List (Nd × Value)} (h : NodesS w v ns) (hs : Since w w') : NodesS w' v ns := ⟨SlR.since h.1 hs, fun x hx => (h.2 x hx).since hs⟩
theorem TreeS.since {w w' : World} {v : Value} {N : List Nd} (h : TreeS w v N) (hs : Since w w') : TreeS w' v N := by
  obtain ⟨ns, h1, h2⟩ := h
  exact ⟨ns, h1.since hs, h2⟩
theorem SpansS.since {w w' : World} {v : Value} {sp : List (Nat × Nat)} (h : SpansS w v sp) (hs : Since w w') : SpansS w' v sp := SlR.since h hs
theorem TreeS.nil (w : World) : TreeS w (.slice none 0 0) [] := ⟨[], ⟨SlR.nil w 5, by simp⟩, rfl⟩
theorem SpansS.nil (w : World) : SpansS w (.slice none 0 0) [] := SlR.nil w 1
theorem TreeS.slice {w : World} {v : Value} {N : List Nd} (h : TreeS w v N) : ∃ A c, v = .slice A N.length c ∧ N.length ≤ c ∧ c ≤ maxLen := by
  obtain ⟨ns, h1, rfl⟩ := h
  rw [List.length_map]
  exact SlR.slice h1.1
theorem SpansS.slice {w : World} {v : Value} {N : List (Nat × Nat)} (h : SpansS w v N) : ∃ A c, v = .slice A N.length c ∧ N.length ≤ c ∧ c ≤ maxLen := SlR.slice h
theorem TreeS.form {w : World} {v : Value} {N : List Nd} (h : TreeS w v N) (hn : 0 < N.length) :
    ∃ b o c, v = .slice (some ⟨b, o, none⟩) N.length c ∧ N.length ≤ c ∧ c ≤ maxLen ∧ b < w.heap.size ∧ ∀ (i : Nat) x, N[i]? = some x → ∃ kv, w.cell? ⟨b, o + i * 5, none⟩ = some (.int .i64 x.c) ∧ w.cell? ⟨b, o + i * 5 + 1, none⟩ = some (.int .i64 x.t) ∧ w.cell? ⟨b, o + i * 5 + 2, none⟩ = some (.bool x.b) ∧
      w.cell? ⟨b, o + i * 5 + 3, none⟩ = some (.string x.d) ∧ w.cell? ⟨b, o + i * 5 + 4, none⟩ = some kv ∧ IntsS w kv x.k := by
  obtain ⟨ns, h1, rfl⟩ := h
  rw [List.length_map] at hn ⊢
  obtain ⟨b, o, c, hv, a1, a2, a3, a4⟩ := SlR.form h1.1 hn
  refine ⟨b, o, c, hv, a1, a2, a3, fun i x hx => ?_⟩
  rw [List.getElem?_map] at hx
  cases hq : ns[i]? with
  | none => rw [hq] at hx; cases hx
  | some y =>
    rw [hq] at hx
    cases hx
    have hg : ∀ j u, (nc y)[j]? = some u → w.cell? ⟨b, o + i * 5 + j, none⟩ = some u := fun j u hj => by
      rw [Nat.add_assoc]
      exact a4 _ _ (nc_at ns i y hq j u hj)
    exact ⟨y.2, hg 0 _ rfl, hg 1 _ rfl, hg 2 _ rfl, hg 3 _ rfl, hg 4 _ rfl, h1.2 y (List.mem_iff_getElem?.2 ⟨i, hq⟩)⟩
theorem SpansS.form {w : World} {v : Value} {N : List (Nat × Nat)} (h : SpansS w v N) (hn : 0 < N.length) :
    ∃ b o c, v = .slice (some ⟨b, o, none⟩) N.length c ∧ N.length ≤ c ∧ c ≤ maxLen ∧ b < w.heap.size ∧ ∀ (i : Nat) x, N[i]? = some x → w.cell? ⟨b, o + i, none⟩ = some (.complex .f64 (fl (x.1 : Int)) (fl (x.2 : Int))) := by
  obtain ⟨b, o, c, hv, a1, a2, a3, a4⟩ := SlR.form h hn
  refine ⟨b, o, c, hv, a1, a2, a3, fun i x hx => a4 i _ ?_⟩
  rw [List.getElem?_map, hx]
  rfl
theorem TreeS.own {w : World} {base : Nat} {tv sv ov : Value} {ns : List (Nd × Value)} {sp : List (Nat × Nat)} {op : List Nat} (h : Rw.Rows w base (WRows tv sv ov ns sp op)) : TreeS w tv (ns.map Prod.fst) :=
  ⟨ns, ⟨SlR.own (own_tv h), fun x hx => by
    have h9 := h.own (kr x) (by unfold WRows; simp; exact .inr (.inr (.inr ⟨x.1, x.2, hx, rfl⟩)))
    have h8 : SlR w 1 x.2 x.1.k.length (x.1.k.map (Value.int .i64)) := SlR.own h9
    exact h8⟩, rfl⟩
theorem SpansS.own {w : World} {base : Nat} {tv sv ov : Value} {ns : List (Nd × Value)} {sp : List (Nat × Nat)} {op : List Nat} (h : Rw.Rows w base (WRows tv sv ov ns sp op)) : SpansS w sv sp := SlR.own (own_sv h)
/-- what a string is: the fault, its place, the nodes, their spans -/
def topV (s : ByteArray) : Nat × Nat × List Nd × List (Nat × Nat) :=
  match top Strs.rightB s with
  | .error (c, p) => (c, p, [], [])
  | .ok g => (0, 0, g.flat 0, g.spans 0)
theorem rows_low {w : World} {base : Nat} {rs : List Row} (h : Rw.Rows w base rs) {a : Addr} (ha : a.block < base) (u : Value) : Rw.Rows (w.setCell a u) base rs := ⟨fun r hr => ownsRow_setCell_below (h.own r hr) ha u, h.apart⟩
theorem rows_base {w : World} {base base' : Nat} {rs : List Row} (h : Rw.Rows w base rs) (hb : base' ≤ base) : Rw.Rows w base' rs := ⟨fun r hr => by
  obtain ⟨h1, h2⟩ := h.own r hr
  refine ⟨h1, ?_⟩
  rcases h2 with h2 | ⟨g, cap, cur, hv, hb2, hr⟩
  · exact .inl h2
  · exact .inr ⟨g, cap, cur, hv, Nat.le_trans hb hb2, hr⟩, h.apart⟩
set_option maxRecDepth 100000 in
theorem walk_u (s : ByteArray) (hm : s.size ≤ maxLen) (c p : Nat) (N : List Nd) (S : List (Nat × Nat)) (ht : topV s = (c, p, N, S)) (w : World) : Calls Try.prog 35 #[.string s] w fun e w' => ∃ tv sv ov ns, e = .returned (.tuple #[tv, sv, .agg (F2 (c : Int) (p : Int))]) ∧ Rw.Rows w' w.heap.size (WRows tv sv ov ns S []) ∧ ns.map Prod.fst = N ∧ Since w w' := by
  refine (walk_any w s hm).mono ?_
  intro e w' h
  unfold WPost at h
  unfold topV at ht
  cases hq : top Strs.rightB s with
  | error x =>
    obtain ⟨c', p'⟩ := x
    rw [hq] at h ht
    dsimp only at h ht
    cases ht
    obtain ⟨rfl, h2⟩ := h
    exact ⟨_, _, .slice none 0 0, [], rfl, (((Rw.Rows.nil _ _).add_nil _ _).add_nil _ _).add_nil _ _, rfl, h2⟩
  | ok g =>
    rw [hq] at h ht
    dsimp only at h ht
    cases ht
    obtain ⟨tv, sv, ov, ns, rfl, h2, h3, h4⟩ := h
    exact ⟨tv, sv, ov, ns, rfl, rows_base h2 (by simp), h3, h4⟩
theorem results_t_cell {P : Program} {fn : Func} {p u : Tmp} {ty : TypeId} (h : fn.results = #[.tmp u, .cell p ty]) (tmps : Array Value) (w : World) (g : Nat) (t : TypeId) (cs : Array Value) (fr : Nat × Nat) (d : TypeDesc) (v : Value)
    (hp : tmps.getD p undef = .pointer (some ⟨g, 0, none⟩)) (hv : tmps.getD u undef = v) (hg : w.heap[g]? = some (.cells cs t fr))
    (hu : P.underlying ty = some d) (hd : (match d with | .struct _ | .array _ _ => true | _ => false) = true) (hi : (P.info? ty).map (·.size) = some cs.size) :
    (results fn tmps).run P w = .ok (.tuple #[v, .agg cs]) w := by
  subst hv
  have hp' : tmps[p]?.getD undef = .pointer (some ⟨g, 0, none⟩) := by simpa using hp
  simp [results, h, hp', asAddr, run_loadVar_row w g t ty cs fr d hg hu hd hi]
theorem two_set {w : World} {g : Nat} {a b : Value} {t : TypeId} {W : World} (h : HR w g #[a, b] t W) (c d : Value) : HR w g #[c, d] t ((W.setCell ⟨g, 0, none⟩ c).setCell ⟨g, 1, none⟩ d) := by
  have h1 := heap_setCell_same W g 0 #[a, b] t c h.row
  exact ⟨heap_setCell_same _ g 1 _ t d h1⟩
set_option maxRecDepth 100000 in
set_option maxHeartbeats 2000000 in
theorem dec_u (s : ByteArray) (hm : s.size ≤ maxLen) (c p : Nat) (N : List Nd) (S : List (Nat × Nat)) (ht : topV s = (c, p, N, S)) (w : World) : Calls Try.prog 11 #[.string s] w fun e w' => ∃ tv, e = .returned (.tuple #[tv, .agg (F2 (c : Int) (p : Int))]) ∧ TreeS w' tv N ∧ Since w w' := by
  have cw := walk_u s hm c p N S ht
  have hr0 : Hid (HR w w.heap.size (F2 0 0) 27 (w.alloc (.cells (F2 0 0) 27))) := Lib.hid ⟨heap_alloc_new w _⟩
  have HS : Hid (Since w (w.alloc (.cells (F2 0 0) 27))) := Lib.hid ((Since.refl w).alloc _)
  unfold F2 at hr0 HS
  clear ht hm
  go_enter Try.func11, Try.ntmps11
  go_wp2_with fail
  refine (cw _).mono ?_
  rintro _ w1 ⟨tv, sv, ov, ns, rfl, hT, hN, h1⟩
  obtain ⟨C, hC⟩ : ∃ C : Int, C = (c : Int) := ⟨_, rfl⟩
  obtain ⟨P, hP⟩ : ∃ P : Int, P = (p : Int) := ⟨_, rfl⟩
  have hT2 := Lib.hid (hT.since ((Since.refl w1).alloc (.cells (F2 C P) 27)))
  have hr1 := Lib.hid (hr_old (hr0.out.step h1) (.cells (F2 C P) 27))
  have HS1 := Lib.hid ((HS.out.step h1).alloc (.cells (F2 C P) 27))
  have hp := Lib.hid (hb_new w1 KT trivial (F2 C P) 27)
  have HN := Lib.hid hN
  rw [← hC, ← hP]
  have HC := Lib.hid hC
  have HP := Lib.hid hP
  clear hT h1 hr0 HS hC hP cw hN
  unfold F2 at hT2 hr1 HS1 hp ⊢
  have f0 := hr_cell hr1.out 0 _ rfl
  have f1 := hr_cell hr1.out 1 _ rfl
  have g0 := frozen_of_row _ _ 0 _ _ hr1.out.row
  have g1 := frozen_of_row _ _ 1 _ _ hr1.out.row
  have n0 := hp.out.cell 0 _ rfl
  have n1 := hp.out.cell 1 _ rfl
  go_wp2_with fail
  go_region
  have hr2 := (two_set hr1.out (.int .i64 C) (.int .i64 P)).step (W' := (((w1.alloc (.cells #[.int .i64 C, .int .i64 P] 27)).setCell ⟨w.heap.size, 0, none⟩ (.int .i64 C)).setCell ⟨w.heap.size, 1, none⟩ (.int .i64 P)).drew) (Since.drew (Since.refl _))
  have hS2 : Since w (((w1.alloc (.cells #[.int .i64 C, .int .i64 P] 27)).setCell ⟨w.heap.size, 0, none⟩ (.int .i64 C)).setCell ⟨w.heap.size, 1, none⟩ (.int .i64 P)).drew := Since.drew (Below.setCell (p := ⟨w.heap.size, 1, none⟩) (Below.setCell (p := ⟨w.heap.size, 0, none⟩) HS1.out (Nat.le_refl _) _) (Nat.le_refl _) _)
  have hlow : w.heap.size < (w.alloc (.cells #[.int .i64 0, .int .i64 0] 27)).heap.size := by simp
  have hT3 := (rows_low (rows_low hT2.out (a := ⟨w.heap.size, 0, none⟩) hlow (.int .i64 C)) (a := ⟨w.heap.size, 1, none⟩) hlow (.int .i64 P)).since (Since.drew (Since.refl _))
  have hT4 := TreeS.own hT3
  rw [HN.out] at hT4
  generalize (((w1.alloc (.cells #[.int .i64 C, .int .i64 P] 27)).setCell ⟨w.heap.size, 0, none⟩ (.int .i64 C)).setCell ⟨w.heap.size, 1, none⟩ (.int .i64 P)).drew = W2 at hr2 hS2 hT4 ⊢
  clear hT3
  go_wp2_with fail
  exact bodyPost_ret (v := .tuple #[tv, .agg #[.int .i64 C, .int .i64 P]]) (results_t_cell Try.results11 _ _ _ _ _ _ _ _ rfl rfl hr2.row Try.underlying27 rfl (f2_info C P)) rfl ⟨tv, by rw [HC.out, HP.out]; rfl, hT4, hS2⟩
set_option maxRecDepth 100000 in
set_option maxHeartbeats 2000000 in
theorem spans_u (s : ByteArray) (hm : s.size ≤ maxLen) (c p : Nat) (N : List Nd) (S : List (Nat × Nat)) (ht : topV s = (c, p, N, S)) (w : World) : Calls Try.prog 13 #[.string s] w fun e w' => ∃ sv, e = .returned sv ∧ SpansS w' sv S ∧ Since w w' := by
  have cw := walk_u s hm c p N S ht
  clear ht hm
  go_enter Try.func13, Try.ntmps13
  go_wp2_with fail
  refine (cw _).mono ?_
  rintro _ w1 ⟨tv, sv, ov, ns, rfl, hT, hN, h1⟩
  obtain ⟨C, hC⟩ : ∃ C : Int, C = (c : Int) := ⟨_, rfl⟩
  obtain ⟨P, hP⟩ : ∃ P : Int, P = (p : Int) := ⟨_, rfl⟩
  have hs := Lib.hid ((SpansS.own hT).since ((Since.refl w1).alloc (.cells (F2 C P) 27)))
  have HS1 := Lib.hid (Since.alloc h1 (.cells (F2 C P) 27))
  rw [← hC, ← hP]
  clear hT h1 hC hP cw hN
  unfold F2 at hs HS1 ⊢
  go_wp2_with fail
  go_ret
  exact ⟨_, rfl, hs.out, HS1.out⟩
end Tlv
end Go.Proofs.Ytihpndfjcgodiaa

/- Package tlv: what the laws' awake asks. -/
namespace Go.Proofs.Ytihpndfjcgodiaa
open Go.RowKit
namespace Tlv
open Span Flt Rw
theorem topA : topV ⟨#[48, 3, 2, 1, 5]⟩ = (0, 0, [⟨0, 16, true, ⟨#[]⟩, [1]⟩, ⟨0, 2, false, ⟨#[5]⟩, []⟩], [(0, 5), (2, 5)]) := by kernel_rfl
theorem topB : topV ⟨#[48, 128]⟩ = (5, 0, [], []) := by kernel_rfl
theorem bits25 : fl ((2 : Nat) : Int) = 4611686018427387904 ∧ fl ((5 : Nat) : Int) = 4617315517961601024 := by decide +kernel
theorem belowQ (w : World) (q : Nat) : Below w.heap.size w (w.drewN q) := ⟨rfl, rfl, rfl, Nat.le_refl _, fun _ _ => rfl⟩
set_option maxRecDepth 100000 in
theorem stillQ {f : Nat} {args : Array Value} {v : Value} (h : Ret f args v) (w : World) : Calls Try.prog f args w fun e w' => e = .returned v ∧ w' = w := (h w).mono fun _ _ ⟨he, hw⟩ => ⟨he, hw.symm⟩
set_option maxRecDepth 100000 in
set_option maxHeartbeats 4000000 in
theorem awake : Mak 10 #[] (.bool true) := by
  have c1 := dec_u _ (by decide) _ _ _ _ topA
  have c2 := spans_u _ (by decide) _ _ _ _ topA
  have c3 := dec_u _ (by decide) _ _ _ _ topB
  have c5 := of_yes 2 5 ⟨by decide, by decide⟩
  rw [bits25.1, bits25.2] at c5
  intro w
  go_enter Try.func10, Try.ntmps10
  go_wp2_with fail
  refine (c1 _).mono ?_
  rintro _ w1 ⟨tv, rfl, hT, h1⟩
  have hf := Lib.hid (show HR w w1.heap.size #[.int .i64 0, .int .i64 0] 27 (w1.alloc (.cells #[.int .i64 0, .int .i64 0] 27)) from ⟨heap_alloc_new w1 _⟩)
  have HS := Lib.hid (Since.alloc h1 (.cells #[.int .i64 0, .int .i64 0] 27))
  have HT := Lib.hid (hT.since ((Since.refl w1).alloc (.cells #[.int .i64 0, .int .i64 0] 27)))
  clear h1 hT c1
  unfold F2
  go_wp2_with fail
  refine (c2 _).mono ?_
  rintro _ w2 ⟨sv, rfl, hP, h2⟩
  replace hf := Lib.hid (hf.out.step h2)
  replace HS := Lib.hid (HS.out.step h2)
  replace HT := Lib.hid (HT.out.since h2)
  have HP := Lib.hid hP
  clear hP h2 c2
  go_wp2_with fail
  refine (c3 _).mono ?_
  rintro _ w3 ⟨uv, rfl, -, h3⟩
  replace hf := Lib.hid (hr_old (hf.out.step h3) (.cells #[.int .i64 5, .int .i64 0] 27))
  have hg := Lib.hid (show HR w w3.heap.size #[.int .i64 5, .int .i64 0] 27 (w3.alloc (.cells #[.int .i64 5, .int .i64 0] 27)) from ⟨heap_alloc_new w3 _⟩)
  replace HS := Lib.hid ((HS.out.step h3).alloc (.cells #[.int .i64 5, .int .i64 0] 27))
  replace HT := Lib.hid ((HT.out.since h3).since ((Since.refl w3).alloc (.cells #[.int .i64 5, .int .i64 0] 27)))
  replace HP := Lib.hid ((HP.out.since h3).since ((Since.refl w3).alloc (.cells #[.int .i64 5, .int .i64 0] 27)))
  clear h3 c3
  have f0 := hr_cell hf.out 0 _ rfl
  have f1 := hr_cell hf.out 1 _ rfl
  have g0 := hr_cell hg.out 0 _ rfl
  have g1 := hr_cell hg.out 1 _ rfl
  obtain ⟨b, o, c, rfl, a1, a2, a3, a4⟩ := HT.out.form (by decide)
  obtain ⟨kv, -, -, -, -, k4, k5⟩ := a4 0 _ rfl
  obtain ⟨kw, -, -, -, k3, -, -⟩ := a4 1 _ rfl
  obtain ⟨A, d, rfl, -, -⟩ := k5.slice
  obtain ⟨b2, o2, c2, rfl, e1, e2, e3, e4⟩ := HP.out.form (by decide)
  have s1 := e4 1 _ rfl
  dsimp only at s1 k3 k4
  rw [bits25.1, bits25.2] at s1
  have q5 := Lib.hid c5
  unfold F2
  clear a1 a2 a3 a4 e1 e2 e3 e4 k5 hf hg HT HP c5
  go_wp2_with fail
  trace_state
  go_quiet ((go_at_call 16; exact Calls.quiet_of_same (stillQ q5.out _)))
  replace HS := Lib.hid (HS.out.step (belowQ _ nq))
  go_wp2_with fail
  go_ret
  exact ⟨rfl, HS.out⟩
end Tlv
end Go.Proofs.Ytihpndfjcgodiaa

/- Elements within one another: what stands behind, and what is left out at the end: plain mathematics. -/
namespace Go.Proofs.Ytihpndfjcgodiaa
namespace Tlv
theorem ext_more (s m : ByteArray) (i j : Nat) (h : j ≤ s.size) : (s ++ m).extract i j = s.extract i j := by
  apply ByteArray.ext
  have e1 : (s ++ m).data = s.data ++ m.data := by simp
  rw [ByteArray.data_extract, ByteArray.data_extract, e1, Array.extract_append]
  have e2 : j - s.data.size = 0 := by
    have : s.data.size = s.size := rfl
    omega
  rw [e2]
  simp
theorem look_app (R : Int → ByteArray → Bool) (s m : ByteArray) (p e deep cnt : Nat) (h : e ≤ s.size) : look R (s ++ m) p e deep cnt = look R s p e deep cnt := by
  unfold look
  rw [ext_more s m p e h]
  obtain ⟨hh, k, x, hq⟩ : ∃ hh k x, Head.dec (s.extract p e).data.toList = (hh, k, x) := ⟨_, _, _, rfl⟩
  rw [hq]
  dsimp only
  by_cases hx : x ≠ 0
  · rw [if_pos hx, if_pos hx]
  rw [if_neg hx, if_neg hx]
  by_cases hf : e - p < k + hh.n
  · rw [if_pos hf, if_pos hf]
  rw [if_neg hf, if_neg hf]
  have hx0 : x = 0 := by omega
  subst hx0
  have h2 := Head.enc_dec _ _ _ hq
  have h5 := h2.2.2.2.2
  have h8 : 2 ≤ (Head.encL hh.c hh.t hh.b hh.n).length := by
    unfold Head.encL Head.tagL Head.lenL Head.seg
    simp only [List.length_append]
    split <;> (try split) <;> (try split) <;> (try split) <;> (try split) <;> simp
  rw [h5, List.length_take] at h8
  rw [ext_more s m _ _ (by omega : p + k + hh.n ≤ s.size)]
theorem dec_app (R : Int → ByteArray → Bool) (s m : ByteArray) : ∀ (f p e deep cnt : Nat), e ≤ s.size → dec R (s ++ m) f p e deep cnt = dec R s f p e deep cnt := by
  intro f
  induction f with
  | zero => intro p e deep cnt _; rfl
  | succ f ih =>
    intro p e deep cnt he
    unfold dec
    rw [look_app R s m p e deep cnt he]
    by_cases hp : e ≤ p
    · rw [if_pos hp, if_pos hp]
    rw [if_neg hp, if_neg hp]
    cases hl : look R s p e deep cnt with
    | error c => rfl
    | ok x =>
      obtain ⟨h, k⟩ := x
      have lk := look_ok hl
      have l1 := lk.fit
      have l2 := lk.pos
      dsimp only
      rw [ih (p + k) (p + k + h.n) (deep + 1) (cnt + 1) (by omega), ih (p + k + h.n) e deep (cnt + 1) he, ext_more s m _ _ (by omega : p + k + h.n ≤ s.size)]
      split
      · cases dec R s f (p + k) (p + k + h.n) (deep + 1) (cnt + 1) with
        | error x => rfl
        | ok ks => dsimp only; rw [ih (p + k + h.n) e deep (cnt + 1 + ks.cnt) he]
      · rfl
theorem look_more {R : Int → ByteArray → Bool} {s m : ByteArray} {deep cnt : Nat} {h : Head.Hd} {k : Nat} (hl : look R s 0 s.size deep cnt = .ok (h, k)) : look R (s ++ m) 0 (s ++ m).size deep cnt = .ok (h, k) := by
  have lk := look_ok hl
  have l1 := lk.fit
  have hsz : (s ++ m).size = s.size + m.size := by simp
  have hx : ∀ t : ByteArray, t.extract 0 t.size = t := fun t => by simp
  have hd : Head.dec ((s ++ m).extract 0 (s ++ m).size).data.toList = (h, k, 0) := by
    rw [hx]
    have e1 : (s ++ m).data.toList = s.data.toList ++ m.data.toList := by simp
    have e2 := lk.enc
    rw [hx] at e2
    rw [e1, ← List.take_append_drop k s.data.toList, ← e2, List.append_assoc, Head.dec_enc h.c h.t h.n h.b lk.c3 lk.tm lk.nm, lk.len]
  unfold look
  rw [hd]
  dsimp only
  have l2 := lk.deep
  have l3 := lk.cnt
  rw [if_neg (by decide), if_neg (by omega), if_neg (by omega), if_neg (by omega), ext_more s m _ _ (by omega : 0 + k + h.n ≤ s.size), if_pos lk.form]
theorem top_more {R : Int → ByteArray → Bool} {s m : ByteArray} {g : F} (ht : top R s = .ok g) (hm : 0 < m.size) (hs : s.size + m.size ≤ 65535) : top R (s ++ m) = .error (5, s.size) := by
  have hsz : (s ++ m).size = s.size + m.size := by simp
  unfold top at ht ⊢
  by_cases h0 : s.size = 0
  · rw [if_pos h0] at ht; cases ht
  rw [if_neg h0, if_neg (by omega)] at ht
  rw [if_neg (by omega), if_neg (by omega)]
  unfold one at ht ⊢
  cases hl : look R s 0 s.size 1 0 with
  | error c => rw [hl] at ht; cases ht
  | ok x =>
    obtain ⟨h, k⟩ := x
    have lk := look_ok hl
    have l1 := lk.fit
    rw [look_more hl]
    rw [hl] at ht
    dsimp only at ht ⊢
    have hA : decA R (s ++ m) (0 + k) (0 + k + h.n) (1 + 1) (0 + 1) = decA R s (0 + k) (0 + k + h.n) (1 + 1) (0 + 1) := dec_app R s m _ _ _ _ _ (by omega)
    rw [hA, ext_more s m _ _ (by omega : 0 + k + h.n ≤ s.size)]
    cases hb : h.b with
    | true =>
      rw [hb] at ht
      simp only [if_true] at ht ⊢
      cases hd : decA R s (0 + k) (0 + k + h.n) (1 + 1) (0 + 1) with
      | error x => rw [hd] at ht; cases ht
      | ok ks =>
        rw [hd] at ht
        dsimp only at ht ⊢
        by_cases hq : 0 + k + h.n < s.size
        · rw [if_pos hq] at ht; cases ht
        · rw [if_pos (by omega), show 0 + k + h.n = s.size by omega]
    | false =>
      rw [hb] at ht
      simp only [Bool.false_eq_true, if_false] at ht ⊢
      by_cases hq : 0 + k + h.n < s.size
      · rw [if_pos hq] at ht; cases ht
      · rw [if_pos (by omega), show 0 + k + h.n = s.size by omega]
theorem top_less {R : Int → ByteArray → Bool} {s : ByteArray} {g : F} (ht : top R s = .ok g) (n : Nat) (hn : n < s.size) (hs : s.size ≤ 65535) : ∃ x, top R (s.extract 0 n) = .error x := by
  cases h : top R (s.extract 0 n) with
  | error x => exact ⟨x, rfl⟩
  | ok g' =>
    have e1 : s.extract 0 n ++ s.extract n s.size = s := by
      apply ByteArray.ext
      have : s.data.size = s.size := rfl
      simp
    have h1 : (s.extract 0 n).size = n := by rw [ByteArray.size_extract]; omega
    have h2 : (s.extract n s.size).size = s.size - n := by rw [ByteArray.size_extract]; omega
    have h9 := top_more (m := s.extract n s.size) h (by omega) (by omega)
    rw [e1, ht] at h9
    cases h9
theorem look_err {R : Int → ByteArray → Bool} {s : ByteArray} {p e deep cnt c : Nat} (h : look R s p e deep cnt = .error c) : c ≠ 0 := by
  unfold look at h
  obtain ⟨hh, k, x, hq⟩ : ∃ hh k x, Head.dec (s.extract p e).data.toList = (hh, k, x) := ⟨_, _, _, rfl⟩
  rw [hq] at h
  dsimp only at h
  by_cases hx : x ≠ 0
  · rw [if_pos hx] at h; cases h; exact hx
  rw [if_neg hx] at h
  split at h
  · cases h; decide
  split at h
  · cases h; decide
  split at h
  · cases h; decide
  split at h
  · cases h
  · cases h; decide
theorem dec_err {R : Int → ByteArray → Bool} {s : ByteArray} : ∀ (f p e deep cnt c q : Nat), p ≤ s.size → e ≤ s.size → dec R s f p e deep cnt = .error (c, q) → c ≠ 0 ∧ q ≤ s.size := by
  intro f
  induction f with
  | zero => intro p e deep cnt c q hp _ h; cases h; exact ⟨by decide, hp⟩
  | succ f ih =>
    intro p e deep cnt c q hp he h
    unfold dec at h
    by_cases hpe : e ≤ p
    · rw [if_pos hpe] at h; cases h
    rw [if_neg hpe] at h
    cases hl : look R s p e deep cnt with
    | error c' => rw [hl] at h; cases h; exact ⟨look_err hl, hp⟩
    | ok x =>
      obtain ⟨hh, k⟩ := x
      have lk := look_ok hl
      have l1 := lk.fit
      rw [hl] at h
      dsimp only at h
      split at h
      · cases h1 : dec R s f (p + k) (p + k + hh.n) (deep + 1) (cnt + 1) with
        | error y => rw [h1] at h; cases h; exact ih _ _ _ _ _ _ (by omega) (by omega) h1
        | ok ks =>
          rw [h1] at h
          dsimp only at h
          cases h2 : dec R s f (p + k + hh.n) e deep (cnt + 1 + ks.cnt) with
          | error y => rw [h2] at h; cases h; exact ih _ _ _ _ _ _ (by omega) he h2
          | ok nx => rw [h2] at h; cases h
      · cases h2 : dec R s f (p + k + hh.n) e deep (cnt + 1) with
        | error y => rw [h2] at h; cases h; exact ih _ _ _ _ _ _ (by omega) he h2
        | ok nx => rw [h2] at h; cases h
theorem top_err_ok {R : Int → ByteArray → Bool} {s : ByteArray} {c p : Nat} (h : top R s = .error (c, p)) : c ≠ 0 ∧ p ≤ s.size := by
  unfold top at h
  split at h
  · cases h; exact ⟨by decide, Nat.zero_le _⟩
  split at h
  · cases h; exact ⟨by decide, Nat.zero_le _⟩
  unfold one at h
  cases hl : look R s 0 s.size 1 0 with
  | error c' => rw [hl] at h; cases h; exact ⟨look_err hl, Nat.zero_le _⟩
  | ok x =>
    obtain ⟨hh, k⟩ := x
    have lk := look_ok hl
    have l1 := lk.fit
    rw [hl] at h
    dsimp only at h
    cases hb : hh.b with
    | true =>
      rw [hb] at h
      simp only [if_true] at h
      cases h1 : decA R s (0 + k) (0 + k + hh.n) (1 + 1) (0 + 1) with
      | error y => rw [h1] at h; cases h; exact dec_err _ _ _ _ _ _ _ (by omega) (by omega) h1
      | ok ks =>
        rw [h1] at h
        dsimp only at h
        split at h
        · cases h; exact ⟨by decide, by omega⟩
        · cases h
    | false =>
      rw [hb] at h
      simp only [Bool.false_eq_true, if_false] at h
      split at h
      · cases h; exact ⟨by decide, by omega⟩
      · cases h
theorem top_some {R : Int → ByteArray → Bool} {s : ByteArray} {g : F} (h : top R s = .ok g) : 0 < s.size ∧ s.size ≤ 65535 := by
  unfold top at h
  split at h
  · cases h
  split at h
  · cases h
  omega
end Tlv
end Go.Proofs.Ytihpndfjcgodiaa

/- Package tlv: Pieces. -/
namespace Go.Proofs.Ytihpndfjcgodiaa
open Go.RowKit
namespace Tlv
open Span Flt Rw
/-- elements one behind the other, from p on -/
def pcsF (s : ByteArray) : Nat → Nat → Except (Nat × Nat) (List ByteArray)
  | 0, p => .error (5, p)
  | f + 1, p => if s.size ≤ p then .ok [] else
    match Head.dec (s.extract p s.size).data.toList with
    | (h, k, x) => if x ≠ 0 then .error (x, p) else if s.size - p < k + h.n then .error (5, p) else
      match pcsF s f (p + (k + h.n)) with
      | .error y => .error y
      | .ok l => .ok (s.extract p (p + (k + h.n)) :: l)
def prepE (L : List ByteArray) : Except (Nat × Nat) (List ByteArray) → Except (Nat × Nat) (List ByteArray)
  | .error y => .error y
  | .ok l => .ok (L ++ l)
def pcsV (s : ByteArray) : Nat × Nat × List ByteArray :=
  if 65535 < s.size then (4, 0, []) else
  match pcsF s (s.size + 1) 0 with
  | .error (c, p) => (c, p, [])
  | .ok l => (0, 0, l)
theorem pcs_end (s : ByteArray) (f p : Nat) (L : List ByteArray) (h : s.size ≤ p) : prepE L (pcsF s (f + 1) p) = .ok L := by
  unfold pcsF
  rw [if_pos h]
  show Except.ok (L ++ []) = _
  rw [List.append_nil]
theorem pcs_bad (s : ByteArray) (f p : Nat) (L : List ByteArray) (h : ¬ s.size ≤ p) (hh : Head.Hd) (k x : Nat) (hq : Head.dec (s.extract p s.size).data.toList = (hh, k, x)) (hx : x ≠ 0) : prepE L (pcsF s (f + 1) p) = .error (x, p) := by
  unfold pcsF
  rw [if_neg h, hq]
  dsimp only
  rw [if_pos hx]
  rfl
theorem pcs_far (s : ByteArray) (f p : Nat) (L : List ByteArray) (h : ¬ s.size ≤ p) (hh : Head.Hd) (k : Nat) (hq : Head.dec (s.extract p s.size).data.toList = (hh, k, 0)) (hx : s.size - p < k + hh.n) : prepE L (pcsF s (f + 1) p) = .error (5, p) := by
  unfold pcsF
  rw [if_neg h, hq]
  dsimp only
  rw [if_neg (by decide), if_pos hx]
  rfl
theorem pcs_one (s : ByteArray) (f p : Nat) (L : List ByteArray) (h : ¬ s.size ≤ p) (hh : Head.Hd) (k : Nat) (hq : Head.dec (s.extract p s.size).data.toList = (hh, k, 0)) (hx : ¬ s.size - p < k + hh.n) : prepE L (pcsF s (f + 1) p) = prepE (L ++ [s.extract p (p + (k + hh.n))]) (pcsF s f (p + (k + hh.n))) := by
  conv => lhs; unfold pcsF
  rw [if_neg h, hq]
  dsimp only
  rw [if_neg (by decide), if_neg hx]
  cases pcsF s f (p + (k + hh.n)) with
  | error y => rfl
  | ok l =>
    show Except.ok (L ++ (_ :: l)) = Except.ok ((L ++ [_]) ++ l)
    rw [List.append_assoc]
    rfl
/-- what Pieces answers -/
def PPost (w : World) (T : Except (Nat × Nat) (List ByteArray)) (e : Ending) (w' : World) : Prop :=
  match T with
  | .error (c, p) => e = .returned (.tuple #[.slice none 0 0, .agg (F2 (c : Int) (p : Int))]) ∧ Since w w'
  | .ok l => ∃ v, e = .returned (.tuple #[v, .agg (F2 0 0)]) ∧ StrsS w' v l ∧ Since w w'
def PcR (f : Nat) (s : ByteArray) (C P : Int) (L : List ByteArray) : Prop := ∀ w, Calls Try.prog f #[.string s] w fun e w' => ∃ v, e = .returned (.tuple #[v, .agg (F2 C P)]) ∧ StrsS w' v L ∧ Since w w'
theorem strs_own {w : World} {base : Nat} {v : Value} {L : List ByteArray} (h : w.ownsRow base 9 1 v L.length (L.map Value.string)) : StrsS w v L := SlR.own h
set_option maxRecDepth 100000 in
set_option maxHeartbeats 8000000 in
theorem pieces_t (s : ByteArray) (hs : s.size ≤ 65535) (T : Except (Nat × Nat) (List ByteArray)) (hT : pcsF s (s.size + 1) 0 = T) (w : World) : Calls Try.prog 17 #[.string s] w (PPost w T) := by
  have h1 : decide ((65535 : Int) < (s.size : Int)) = false := decide_eq_false (by omega)
  have h2 : decide (65535 < s.size) = false := decide_eq_false (by omega)
  obtain ⟨z, hz⟩ : ∃ z : Nat, z = 0 := ⟨_, rfl⟩
  have c0 : Ret 16 #[.int .i64 0, .int .i64 (s.size : Int)] (.complex .f64 (fl (z : Int)) (fl (s.size : Int))) := by rw [hz]; exact of_yes 0 s.size ⟨by omega, by omega⟩
  have HT : Hid (prepE [] (pcsF s (s.size + 1) z) = T) := Lib.hid (by rw [hz, hT]; cases T <;> rfl)
  have Hz := Lib.hid hz
  have hr0 : Hid (HR w w.heap.size (F2 0 0) 27 (w.alloc (.cells (F2 0 0) 27))) := Lib.hid ⟨heap_alloc_new w _⟩
  have HR0 : Hid ((w.alloc (.cells #[.int .i64 0, .int .i64 0] 27)).ownsRow (w.alloc (.cells #[.int .i64 0, .int .i64 0] 27)).heap.size 9 1 (.slice none 0 0) ([] : List ByteArray).length (([] : List ByteArray).map Value.string)) := Lib.hid (World.ownsRow_nil _ _ _ _)
  have HS0 : Hid (Since (w.alloc (.cells #[.int .i64 0, .int .i64 0] 27)) (w.alloc (.cells #[.int .i64 0, .int .i64 0] 27))) := Lib.hid (Since.refl _)
  clear hz hT
  unfold F2 at hr0
  go_enter Try.func17, Try.ntmps17
  go_wp2_with fail
  refine c0.calls ?_
  go_wp2_with fail
  go_loopw [4, 5] (fun lv rv wr => ∃ (p f : Nat) (L : List ByteArray) (A : Option Addr) (cc : Nat), p ≤ s.size ∧ lv = .slice A L.length cc ∧ rv = .complex .f64 (fl (p : Int)) (fl (s.size : Int)) ∧ Hid (L.length ≤ p) ∧ Hid (s.size - p < f) ∧ Hid (prepE L (pcsF s f p) = T) ∧ Hid (wr.ownsRow (w.alloc (.cells #[.int .i64 0, .int .i64 0] 27)).heap.size 9 1 lv L.length (L.map Value.string)) ∧ Hid (Since (w.alloc (.cells #[.int .i64 0, .int .i64 0] 27)) wr)) (fun lv _ _ => s.size + 1 - lenOf lv)
  case atStart => exact ⟨z, s.size + 1, [], none, 0, by rw [Hz.out]; exact Nat.zero_le _, rfl, rfl, Lib.hid (Nat.zero_le _), Lib.hid (by omega), HT, HR0, HS0⟩
  case round =>
    clear HT Hz HR0 HS0 hr0
    obtain ⟨p, f, L, A, cc, hp, rfl, rfl, HLp, HF, HT, HRo, HS⟩ := hrel
    have c1 := from_ret p s.size ⟨hp, by omega⟩
    have c2 := to_ret p s.size ⟨hp, by omega⟩
    obtain ⟨f, rfl⟩ : ∃ f', f = f' + 1 := ⟨f - 1, by have := HF.out; omega⟩
    by_cases hlt : p < s.size
    · have t1 : decide ((p : Int) < (s.size : Int)) = true := decide_eq_true (by omega)
      have t2 : decide (p < s.size) = true := decide_eq_true hlt
      have hpn : ¬ s.size ≤ p := by omega
      have c3 := meas_mak s p s.size hp (Nat.le_refl _) hs
      obtain ⟨hh, k, x, hq⟩ : ∃ hh k x, Head.dec (s.extract p s.size).data.toList = (hh, k, x) := ⟨_, _, _, rfl⟩
      unfold measV at c3
      rw [hq] at c3
      dsimp only at c3
      by_cases hx : x ≠ 0
      · rw [if_pos hx] at c3
        obtain ⟨X, hX⟩ : ∃ X : Int, X = (x : Int) := ⟨_, rfl⟩
        rw [← hX] at c3
        have hX0 : (X != 0) = true := by rw [bne_iff_ne]; omega
        have hW : ∀ w', Since w w' → PPost w T (.returned (.tuple #[.slice none 0 0, .agg (F2 X (p : Int))])) w' := by
          intro w' h
          rw [← HT.out, pcs_bad s f p L hpn hh k x hq hx, hX]
          exact ⟨rfl, h⟩
        have HW := Lib.hid hW
        clear hW hX hx hq HT HF HLp HRo
        go_wp2_with fail
        refine c1.calls ?_
        go_wp2_with fail
        refine c2.calls ?_
        go_wp2_with fail
        refine c3.calls0 ?_
        intro w1 h1
        have HS1 := Lib.hid ((HS.out.step h1).alloc (.cells Z4 69))
        clear h1
        have hr0 := Lib.hid (HR.step (w := w) ⟨heap_alloc_new w (.cells #[.int .i64 0, .int .i64 0] 27)⟩ HS1.out)
        have HSw := Lib.hid ((Since.alloc (Since.refl w) _).step HS1.out)
        unfold Z4 at hr0 HSw ⊢
        go_wp2_with fail
        refine c1.calls ?_
        go_wp2_with (refine wpList_store_row rfl 27 _ _ rfl w.heap.size (F2 X (p : Int)) (by rfl) (by rfl) _ _ hr0.out.row (f2_info X (p : Int)) rfl (f2_one X (p : Int)) ?_)
        exact bodyPost_ret (v := .tuple #[.slice none 0 0, .agg (F2 X (p : Int))]) (results_t_cell Try.results17 _ _ _ _ _ _ _ _ rfl rfl (setRow_heap _ _ _ _ _ _ hr0.out.row) Try.underlying27 rfl (f2_info X (p : Int))) rfl (HW.out _ (below_setRow HSw.out (Nat.le_refl _) _))
      rw [if_neg hx] at c3
      obtain rfl : x = 0 := by omega
      by_cases hf : s.size - p < k + hh.n
      · rw [if_pos hf] at c3
        obtain ⟨X, hX⟩ : ∃ X : Int, X = 5 := ⟨_, rfl⟩
        rw [← hX] at c3
        have hX0 : (X != 0) = true := by rw [bne_iff_ne]; omega
        have hW : ∀ w', Since w w' → PPost w T (.returned (.tuple #[.slice none 0 0, .agg (F2 X (p : Int))])) w' := by
          intro w' h
          rw [← HT.out, pcs_far s f p L hpn hh k hq hf, hX]
          exact ⟨rfl, h⟩
        have HW := Lib.hid hW
        clear hW hX hx hq HT HF HLp HRo hf
        go_wp2_with fail
        refine c1.calls ?_
        go_wp2_with fail
        refine c2.calls ?_
        go_wp2_with fail
        refine c3.calls0 ?_
        intro w1 h1
        have HS1 := Lib.hid ((HS.out.step h1).alloc (.cells Z4 69))
        clear h1
        have hr0 := Lib.hid (HR.step (w := w) ⟨heap_alloc_new w (.cells #[.int .i64 0, .int .i64 0] 27)⟩ HS1.out)
        have HSw := Lib.hid ((Since.alloc (Since.refl w) _).step HS1.out)
        unfold Z4 at hr0 HSw ⊢
        go_wp2_with fail
        refine c1.calls ?_
        go_wp2_with (refine wpList_store_row rfl 27 _ _ rfl w.heap.size (F2 X (p : Int)) (by rfl) (by rfl) _ _ hr0.out.row (f2_info X (p : Int)) rfl (f2_one X (p : Int)) ?_)
        exact bodyPost_ret (v := .tuple #[.slice none 0 0, .agg (F2 X (p : Int))]) (results_t_cell Try.results17 _ _ _ _ _ _ _ _ rfl rfl (setRow_heap _ _ _ _ _ _ hr0.out.row) Try.underlying27 rfl (f2_info X (p : Int))) rfl (HW.out _ (below_setRow HSw.out (Nat.le_refl _) _))
      rw [if_neg hf] at c3
      obtain ⟨g1, g2, g3, g4, g5⟩ := Head.enc_dec _ _ _ hq
      have gl : (Head.encL hh.c hh.t hh.b hh.n).length = k := by rw [g5, List.length_take]; omega
      have gk := (Head.encL_len hh.c hh.t hh.b hh.n).1
      have g2' : 2 ≤ k := by
        rw [← gl]
        unfold Head.encL Head.tagL Head.lenL Head.seg
        simp only [List.length_append]
        split <;> (try split) <;> (try split) <;> (try split) <;> (try split) <;> simp
      obtain ⟨e2, he2⟩ : ∃ e2, e2 = p + (k + hh.n) := ⟨_, rfl⟩
      have c4 := total_ret k hh.n (by omega) (by omega)
      have c5 := split_ret p s.size (k + hh.n) (by omega) (by omega) e2 he2
      have c6 := cut_pe s p e2 (by omega) (by omega) hs
      obtain ⟨D, hD⟩ : ∃ D, D = s.extract p e2 := ⟨_, rfl⟩
      rw [← hD] at c6
      have HT2 : Hid (prepE (L ++ [D]) (pcsF s f e2) = T) := Lib.hid (by rw [← HT.out, pcs_one s f p L hpn hh k hq hf, hD, he2])
      have HL2 : Hid ((L ++ [D]).length ≤ e2) := Lib.hid (by rw [List.length_append, List.length_singleton]; have := HLp.out; omega)
      have HF2 : Hid (s.size - e2 < f) := Lib.hid (by have := HF.out; omega)
      have HE2 : Hid (e2 ≤ s.size) := Lib.hid (by omega)
      have hL9 : L.length ≤ 1099511627776 := by have := HLp.out; omega
      have HM : Hid (L.length + 1 ≤ s.size) := Lib.hid (by have := HLp.out; omega)
      clear HT HF HLp hq hx hf g1 g2 g3 g4 g5 gl gk g2' he2 hD
      go_wp2_with fail
      refine c1.calls ?_
      go_wp2_with fail
      refine c2.calls ?_
      go_wp2_with fail
      refine c3.calls0 ?_
      intro w1 h1
      have HS1 := Lib.hid ((HS.out.step h1).alloc (.cells (H4 (hh.c : Int) (hh.t : Int) hh.b (hh.n : Int)) 69))
      have HR1 := Lib.hid (World.ownsRow.alloc (Att.row_since HRo.out h1) (.cells (H4 (hh.c : Int) (hh.t : Int) hh.b (hh.n : Int)) 69))
      unfold H4 at HS1 HR1 ⊢
      clear h1 HRo HS
      go_wp2_with fail
      refine c4.calls ?_
      go_wp2_with fail
      refine c5.calls ?_
      go_wp2_with fail
      refine c6.calls ?_
      generalize w1.alloc (.cells #[.int .i64 (hh.c : Int), .int .i64 (hh.t : Int), .bool hh.b, .int .i64 (hh.n : Int)] 69) = W1 at HS1 HR1 ⊢
      go_wp2_with (at_builtin; refine app_one elemS rfl _ _ (by rfl) (w.alloc (.cells #[.int .i64 0, .int .i64 0] 27)) W1 _ L.length _ (by rfl) HR1.out HS1.out (.string D) (by rfl) rfl hL9 (by decide) ?_; intro v2 w2 hO hS2; obtain ⟨A2, c9, rfl⟩ : ∃ A c, v2 = .slice A (L.length + 1) c := own_any hO; have HO := Lib.hid hO; have HS2 := Lib.hid hS2; clear hO hS2)
      go_round
      case rel => exact ⟨e2, f, L ++ [D], A2, c9, HE2.out, by rw [List.length_append]; rfl, rfl, HL2, HF2, HT2, Lib.hid (by rw [List.length_append, List.map_append]; exact HO.out), HS2⟩
      case measure => show s.size + 1 - (L.length + 1) < s.size + 1 - L.length; have := HM.out; omega
    · have t1 : decide ((p : Int) < (s.size : Int)) = false := decide_eq_false (by omega)
      have t2 : decide (p < s.size) = false := decide_eq_false hlt
      have HOK : Hid (T = .ok L) := Lib.hid (by rw [← HT.out]; exact pcs_end s f p L (by omega))
      have hr0 := Lib.hid (HR.step (w := w) ⟨heap_alloc_new w (.cells #[.int .i64 0, .int .i64 0] 27)⟩ HS.out)
      have HSw := Lib.hid ((Since.alloc (Since.refl w) _).step HS.out)
      clear HT HF HLp
      go_wp2_with fail
      refine c1.calls ?_
      go_wp2_with fail
      refine c2.calls ?_
      go_wp2_with (refine wpList_store_row rfl 27 _ _ rfl w.heap.size (F2 0 0) (by rfl) (by rfl) _ _ hr0.out.row (f2_info 0 0) rfl (f2_one 0 0) ?_)
      have hself : wr.setRow w.heap.size (F2 0 0) = wr := setRow_self _ _ _ _ _ hr0.out.row
      rw [hself]
      refine bodyPost_ret (v := .tuple #[.slice A L.length cc, .agg (F2 0 0)]) (results_t_cell Try.results17 _ _ _ _ _ _ _ _ rfl rfl hr0.out.row Try.underlying27 rfl (f2_info 0 0)) rfl ?_
      rw [HOK.out]
      exact ⟨_, rfl, strs_own HRo.out, HSw.out⟩
theorem pieces_u (s : ByteArray) (hs : s.size ≤ 65535) (c p : Nat) (L : List ByteArray) (hv : pcsV s = (c, p, L)) : PcR 17 s (c : Int) (p : Int) L := by
  intro w
  unfold pcsV at hv
  rw [if_neg (by omega)] at hv
  refine (pieces_t s hs _ rfl w).mono ?_
  intro e w' h
  unfold PPost at h
  cases hq : pcsF s (s.size + 1) 0 with
  | error x =>
    obtain ⟨c', p'⟩ := x
    rw [hq] at h hv
    dsimp only at h hv
    cases hv
    exact ⟨_, h.1, StrsS.nil _, h.2⟩
  | ok l =>
    rw [hq] at h hv
    dsimp only at h hv
    cases hv
    exact h
end Tlv
end Go.Proofs.Ytihpndfjcgodiaa

/- Elements within one another: where kids are: plain mathematics. -/
namespace Go.Proofs.Ytihpndfjcgodiaa
namespace Tlv
open F
theorem tops_at (f : F) : ∀ (i p k : Nat) (a : Int), (f.tops i)[k]? = some a → ∃ b u v, a = ((i + b : Nat) : Int) ∧ (f.spans p)[b]? = some (u, v) ∧ p ≤ u ∧ u ≤ v ∧ v ≤ p + f.enc.length ∧
    ∀ k', k = k' + 1 → ∃ b' u' v', (f.tops i)[k']? = some ((i + b' : Nat) : Int) ∧ (f.spans p)[b']? = some (u', v') ∧ v' ≤ u ∧ u' ≤ v' := by
  induction f with
  | nil => intro i p k a h; cases h
  | prim c t d nx ih =>
    intro i p k a h
    have hE : (F.prim c t d nx).enc.length = (Head.encL c t false d.size).length + d.size + nx.enc.length := by
      show (Head.encL c t false d.size ++ d.data.toList ++ nx.enc).length = _
      rw [List.length_append, List.length_append]
      rfl
    cases k with
    | zero =>
      have ha : (i : Int) = a := Option.some.inj h
      refine ⟨0, p, p + ((Head.encL c t false d.size).length + d.size), ha.symm, rfl, Nat.le_refl _, by omega, by omega, fun k' hk => by omega⟩
    | succ k =>
      obtain ⟨b, u, v, h1, h2, h3, h4, h5, h6⟩ := ih (i + 1) (p + ((Head.encL c t false d.size).length + d.size)) k a h
      refine ⟨b + 1, u, v, by rw [h1]; congr 1; omega, h2, by omega, h4, by omega, fun k' hk => ?_⟩
      obtain rfl : k' = k := by omega
      cases k' with
      | zero => exact ⟨0, p, p + ((Head.encL c t false d.size).length + d.size), rfl, rfl, by omega, by omega⟩
      | succ k'' =>
        obtain ⟨b', u', v', j1, j2, j3, j4⟩ := h6 k'' rfl
        exact ⟨b' + 1, u', v', by show (nx.tops (i + 1))[k'']? = _; rw [j1]; congr 2; omega, j2, j3, j4⟩
  | cons c t ks nx _ ih =>
    intro i p k a h
    have hE : (F.cons c t ks nx).enc.length = (Head.encL c t true ks.enc.length).length + ks.enc.length + nx.enc.length := by
      show (Head.encL c t true ks.enc.length ++ ks.enc ++ nx.enc).length = _
      rw [List.length_append, List.length_append]
    have hsp : ∀ b, ((F.cons c t ks nx).spans p)[1 + ks.cnt + b]? = (nx.spans (p + ((Head.encL c t true ks.enc.length).length + ks.enc.length)))[b]? := by
      intro b
      show (_ :: (ks.spans _ ++ nx.spans _))[1 + ks.cnt + b]? = _
      rw [show 1 + ks.cnt + b = (ks.cnt + b) + 1 by omega, List.getElem?_cons_succ, List.getElem?_append_right (by rw [F.spans_len]; omega), F.spans_len, Nat.add_sub_cancel_left]
    cases k with
    | zero =>
      have ha : (i : Int) = a := Option.some.inj h
      refine ⟨0, p, p + ((Head.encL c t true ks.enc.length).length + ks.enc.length), ha.symm, rfl, Nat.le_refl _, by omega, by omega, fun k' hk => by omega⟩
    | succ k =>
      obtain ⟨b, u, v, h1, h2, h3, h4, h5, h6⟩ := ih (i + 1 + ks.cnt) (p + ((Head.encL c t true ks.enc.length).length + ks.enc.length)) k a h
      refine ⟨1 + ks.cnt + b, u, v, by rw [h1]; congr 1; omega, by rw [hsp]; exact h2, by omega, h4, by omega, fun k' hk => ?_⟩
      obtain rfl : k' = k := by omega
      cases k' with
      | zero => exact ⟨0, p, p + ((Head.encL c t true ks.enc.length).length + ks.enc.length), rfl, rfl, by omega, by omega⟩
      | succ k'' =>
        obtain ⟨b', u', v', j1, j2, j3, j4⟩ := h6 k'' rfl
        exact ⟨1 + ks.cnt + b', u', v', by show (nx.tops (i + 1 + ks.cnt))[k'']? = _; rw [j1]; congr 2; omega, by rw [hsp]; exact j2, j3, j4⟩
/-- where a node's kids are -/
def KidsAt (x : Nd) (i : Nat) (S : List (Nat × Nat)) (j uj vj : Nat) : Prop := ∀ (k : Nat) (a : Int), x.k[k]? = some a → ∃ b u v, a = ((i + b : Nat) : Int) ∧ j < b ∧ S[b]? = some (u, v) ∧ u ≤ v ∧ uj ≤ u ∧ v ≤ vj ∧
    ∀ k', k = k' + 1 → ∃ b' u' v', x.k[k']? = some ((i + b' : Nat) : Int) ∧ S[b']? = some (u', v') ∧ v' ≤ u ∧ u' ≤ v'
theorem KidsAt.move {x : Nd} {i : Nat} {S S2 : List (Nat × Nat)} {j uj vj d : Nat} (h : KidsAt x (i + d) S j uj vj) (hS : ∀ b p, S[b]? = some p → S2[d + b]? = some p) : KidsAt x i S2 (d + j) uj vj := by
  intro k a ha
  obtain ⟨b, u, v, h1, h2, h3, h4, h5, h6, h7⟩ := h k a ha
  refine ⟨d + b, u, v, by rw [h1]; congr 1; omega, by omega, hS _ _ h3, h4, h5, h6, fun k' hk => ?_⟩
  obtain ⟨b', u', v', j1, j2, j3, j4⟩ := h7 k' hk
  exact ⟨d + b', u', v', by rw [j1]; congr 2; omega, hS _ _ j2, j3, j4⟩
theorem kids_at (f : F) : ∀ (i p j : Nat) (x : Nd), (f.flat i)[j]? = some x → ∃ uj vj, (f.spans p)[j]? = some (uj, vj) ∧ p ≤ uj ∧ uj ≤ vj ∧ vj ≤ p + f.enc.length ∧ KidsAt x i (f.spans p) j uj vj := by
  induction f with
  | nil => intro i p j x h; cases h
  | prim c t d nx ih =>
    intro i p j x h
    have hE : (F.prim c t d nx).enc.length = (Head.encL c t false d.size).length + d.size + nx.enc.length := by
      show (Head.encL c t false d.size ++ d.data.toList ++ nx.enc).length = _
      rw [List.length_append, List.length_append]
      rfl
    cases j with
    | zero =>
      have hx : (⟨c, t, false, d, []⟩ : Nd) = x := Option.some.inj h
      refine ⟨p, p + ((Head.encL c t false d.size).length + d.size), rfl, Nat.le_refl _, by omega, by omega, fun k a ha => ?_⟩
      rw [← hx] at ha
      cases ha
    | succ j =>
      obtain ⟨uj, vj, h1, h2, h3, h4, h5⟩ := ih (i + 1) (p + ((Head.encL c t false d.size).length + d.size)) j x h
      refine ⟨uj, vj, h1, by omega, h3, by omega, ?_⟩
      rw [Nat.add_comm j 1]
      exact h5.move (fun b q hb => by rw [Nat.add_comm]; exact hb)
  | cons c t ks nx ih1 ih2 =>
    intro i p j x h
    have hE : (F.cons c t ks nx).enc.length = (Head.encL c t true ks.enc.length).length + ks.enc.length + nx.enc.length := by
      show (Head.encL c t true ks.enc.length ++ ks.enc ++ nx.enc).length = _
      rw [List.length_append, List.length_append]
    have hs2 : ∀ b q, (nx.spans (p + ((Head.encL c t true ks.enc.length).length + ks.enc.length)))[b]? = some q → ((F.cons c t ks nx).spans p)[1 + ks.cnt + b]? = some q := by
      intro b q hb
      show (_ :: (ks.spans _ ++ nx.spans _))[1 + ks.cnt + b]? = _
      rw [show 1 + ks.cnt + b = (ks.cnt + b) + 1 by omega, List.getElem?_cons_succ, List.getElem?_append_right (by rw [F.spans_len]; omega), F.spans_len, Nat.add_sub_cancel_left]
      exact hb
    have hs1 : ∀ b q, (ks.spans (p + (Head.encL c t true ks.enc.length).length))[b]? = some q → ((F.cons c t ks nx).spans p)[1 + b]? = some q := by
      intro b q hb
      have hlt := (List.getElem?_eq_some_iff.1 hb).1
      show (_ :: (ks.spans _ ++ nx.spans _))[1 + b]? = _
      rw [show 1 + b = b + 1 by omega, List.getElem?_cons_succ, List.getElem?_append_left hlt]
      exact hb
    cases j with
    | zero =>
      have hx : (⟨c, t, true, ⟨#[]⟩, ks.tops (i + 1)⟩ : Nd) = x := Option.some.inj h
      refine ⟨p, p + ((Head.encL c t true ks.enc.length).length + ks.enc.length), rfl, Nat.le_refl _, by omega, by omega, fun k a ha => ?_⟩
      rw [← hx] at ha ⊢
      obtain ⟨b, u, v, h1, h2, h3, h4, h5, h6⟩ := tops_at ks (i + 1) (p + (Head.encL c t true ks.enc.length).length) k a ha
      refine ⟨1 + b, u, v, by rw [h1]; congr 1; omega, by omega, hs1 _ _ h2, h4, by omega, by omega, fun k' hk => ?_⟩
      obtain ⟨b', u', v', j1, j2, j3, j4⟩ := h6 k' hk
      exact ⟨1 + b', u', v', by show (ks.tops (i + 1))[k']? = _; rw [j1]; congr 2; omega, hs1 _ _ j2, j3, j4⟩
    | succ j =>
      have h' : (ks.flat (i + 1) ++ nx.flat (i + 1 + ks.cnt))[j]? = some x := h
      by_cases hj : j < ks.cnt
      · rw [List.getElem?_append_left (by rw [F.flat_len]; exact hj)] at h'
        obtain ⟨uj, vj, h1, h2, h3, h4, h5⟩ := ih1 (i + 1) (p + (Head.encL c t true ks.enc.length).length) j x h'
        rw [Nat.add_comm j 1]
        exact ⟨uj, vj, hs1 _ _ h1, by omega, h3, by omega, h5.move hs1⟩
      · rw [List.getElem?_append_right (by rw [F.flat_len]; omega), F.flat_len] at h'
        obtain ⟨uj, vj, h1, h2, h3, h4, h5⟩ := ih2 (i + 1 + ks.cnt) (p + ((Head.encL c t true ks.enc.length).length + ks.enc.length)) (j - ks.cnt) x h'
        rw [show j + 1 = 1 + ks.cnt + (j - ks.cnt) by omega]
        refine ⟨uj, vj, hs2 _ _ h1, by omega, h3, by omega, KidsAt.move (d := 1 + ks.cnt) ?_ hs2⟩
        rw [← Nat.add_assoc]
        exact h5
theorem cnt_enc (f : F) : 2 * f.cnt ≤ f.enc.length := by
  have key : ∀ c t b n, 2 ≤ (Head.encL c t b n).length := by
    intro c t b n
    unfold Head.encL Head.tagL Head.lenL Head.seg
    simp only [List.length_append]
    split <;> (try split) <;> (try split) <;> (try split) <;> (try split) <;> simp
  induction f with
  | nil => exact Nat.le_refl _
  | prim c t d nx ih =>
    have := key c t false d.size
    show 2 * (1 + nx.cnt) ≤ (Head.encL c t false d.size ++ d.data.toList ++ nx.enc).length
    rw [List.length_append, List.length_append]
    omega
  | cons c t ks nx ih1 ih2 =>
    have := key c t true ks.enc.length
    show 2 * (1 + ks.cnt + nx.cnt) ≤ (Head.encL c t true ks.enc.length ++ ks.enc ++ nx.enc).length
    rw [List.length_append, List.length_append]
    omega
/-- of a string that is one element: its whole is the first span -/
theorem top_first {s : ByteArray} {g : F} (ht : top Strs.rightB s = .ok g) : (g.spans 0)[0]? = some (0, s.size) ∧ g.enc.length = s.size ∧ pcsV s = (0, 0, [s]) := by
  obtain ⟨h0, h1⟩ := top_some ht
  have ht' := ht
  unfold top at ht'
  rw [if_neg (by omega), if_neg (by omega)] at ht'
  unfold one at ht'
  cases hl : look Strs.rightB s 0 s.size 1 0 with
  | error c => rw [hl] at ht'; cases ht'
  | ok x =>
    obtain ⟨hh, k⟩ := x
    have lk := look_ok hl
    have l1 := lk.fit
    have l2 := lk.pos
    rw [hl] at ht'
    dsimp only at ht'
    have hall : 0 + k + hh.n = s.size ∧ (g.spans 0)[0]? = some (0, 0 + k + hh.n) ∧ (∃ c t d, g = .prim c t d .nil ∨ ∃ ks, g = .cons c t ks .nil) := by
      cases hb : hh.b with
      | true =>
        have hG := top_cons h0 h1 hh k hl hb
        rw [ht] at hG
        obtain ⟨fs, a1, a2, a3⟩ := hG
        rw [hb] at ht'
        simp only [if_true] at ht'
        cases hd : decA Strs.rightB s (0 + k) (0 + k + hh.n) (1 + 1) (0 + 1) with
        | error x => rw [hd] at ht'; cases ht'
        | ok ks =>
          rw [hd] at ht'
          dsimp only at ht'
          by_cases hq : 0 + k + hh.n < s.size
          · rw [if_pos hq] at ht'; cases ht'
          · rw [if_neg hq] at ht'
            refine ⟨by omega, by rw [← a3]; rfl, hh.c, hh.t, ⟨#[]⟩, .inr ⟨ks, (Except.ok.inj ht').symm⟩⟩
      | false =>
        have hG := top_prim h0 h1 hh k hl hb
        rw [ht] at hG
        obtain ⟨fs, a1, a2, a3⟩ := hG
        rw [hb] at ht'
        simp only [Bool.false_eq_true, if_false] at ht'
        by_cases hq : 0 + k + hh.n < s.size
        · rw [if_pos hq] at ht'; cases ht'
        · rw [if_neg hq] at ht'
          refine ⟨by omega, by rw [← a3]; rfl, hh.c, hh.t, _, .inl (Except.ok.inj ht').symm⟩
    obtain ⟨e1, e2, c, t, d, e3⟩ := hall
    rw [e1] at e2
    refine ⟨e2, ?_, ?_⟩
    · rcases e3 with rfl | ⟨ks, rfl⟩
      · have h9 : (0, 0 + ((Head.encL c t false d.size).length + d.size)) = (0, s.size) := Option.some.inj e2
        have h8 := (Prod.mk.inj h9).2
        show (Head.encL c t false d.size ++ d.data.toList ++ []).length = _
        rw [List.append_nil, List.length_append, ← h8, Nat.zero_add]
        rfl
      · have h9 : (0, 0 + ((Head.encL c t true ks.enc.length).length + ks.enc.length)) = (0, s.size) := Option.some.inj e2
        have h8 := (Prod.mk.inj h9).2
        show (Head.encL c t true ks.enc.length ++ ks.enc ++ []).length = _
        rw [List.append_nil, List.length_append, ← h8, Nat.zero_add]
    · have hx : s.extract 0 s.size = s := by simp
      have hp : prepE [] (pcsF s (s.size + 1) 0) = .ok [s] := by
        rw [pcs_one s s.size 0 [] (by omega) hh k lk.hd (by omega)]
        obtain ⟨m, hm⟩ : ∃ m, s.size = m + 1 := ⟨s.size - 1, by omega⟩
        rw [show 0 + (k + hh.n) = s.size by omega, hx]
        have h9 := pcs_end s m s.size [s] (Nat.le_refl _)
        rw [← hm] at h9
        exact h9
      unfold pcsV
      rw [if_neg (by omega)]
      cases hq : pcsF s (s.size + 1) 0 with
      | error x => rw [hq] at hp; cases hp
      | ok l =>
        rw [hq] at hp
        have h9 : ([] : List ByteArray) ++ l = [s] := Except.ok.inj hp
        dsimp only
        rw [List.nil_append] at h9
        rw [h9]
end Tlv
end Go.Proofs.Ytihpndfjcgodiaa

/- Package clavigerref19: the walk's memory: a struct of the call's own, with its rows. -/
namespace Go.Proofs.Ytihpndfjcgodiaa
open Go.RowKit
namespace Tlv
open Span Flt Rw
/-- a guard: the operation is a store -/
theorem at_store {P : Program} {ops : Array Oper} {Q : Exit → Act → World → Prop} {o : Oper} {rest : List Oper} {a : Act} {w : World} {ty : TypeId} {x y : Operand} (_ : o.op = .store ty x y) (h : wpList P ops Q (o :: rest) a w) : wpList P ops Q (o :: rest) a w := h
theorem rows_drop {w : World} {base : Nat} {r : Row} {rs : List Row} (h : Rw.Rows w base (r :: rs)) : Rw.Rows w base rs := ⟨fun x hx => h.own x (by simp [hx]), (List.pairwise_cons.1 h.apart).2⟩
theorem rows_dropN {w : World} {base : Nat} (A : List Row) {rs : List Row} (h : Rw.Rows w base (A ++ rs)) : Rw.Rows w base rs := ⟨fun x hx => h.own x (by simp [hx]), (List.pairwise_append.1 h.apart).2.1⟩
theorem rows_ins {w : World} {base : Nat} (A B : List Row) (h : Rw.Rows w base (A ++ B)) (e : TypeId) (k : Nat) : Rw.Rows w base (A ++ ⟨e, k, .slice none 0 0, 0, []⟩ :: B) := by
  obtain ⟨ho, ha⟩ := h
  rw [List.pairwise_append] at ha
  obtain ⟨a1, a2, a3⟩ := ha
  refine ⟨fun r hr => ?_, ?_⟩
  · rcases List.mem_append.1 hr with hr | hr
    · exact ho r (by simp [hr])
    · rcases List.mem_cons.1 hr with rfl | hr
      · exact World.ownsRow_nil w base e k
      · exact ho r (by simp [hr])
  · rw [List.pairwise_append, List.pairwise_cons]
    refine ⟨a1, ⟨fun b _ => Apart.none, a2⟩, fun a ha b hb => ?_⟩
    rcases List.mem_cons.1 hb with rfl | hb
    · exact Apart.none.symm
    · exact a3 a ha b hb
/-- a block made just now, as a row -/
def lone (t : TypeId) (g : Nat) (C : List Value) : Row := ⟨t, C.length, .slice (some ⟨g, 0, none⟩) 1 1, 1, C⟩
theorem rows_push {w : World} {base : Nat} {rs : List Row} (h : Rw.Rows w base rs) (hb : base ≤ w.heap.size) (C : List Value) (t : TypeId) : Rw.Rows (w.alloc (.cells C.toArray t)) base (lone t w.heap.size C :: rs) := by
  obtain ⟨ho, ha⟩ := h
  refine ⟨fun r hr => ?_, List.pairwise_cons.2 ⟨fun r hr g hg => ?_, ha⟩⟩
  · rcases List.mem_cons.1 hr with rfl | hr
    · refine ⟨by simp [lone], .inr ⟨w.heap.size, 1, C.toArray, rfl, hb, heap_alloc_new w _, Nat.le_refl _, by decide, by simp [lone], ?_⟩⟩
      simp [lone]
    · exact World.ownsRow.alloc (ho r hr) _
  · intro h2
    have h3 : g = w.heap.size := by cases hg; rfl
    have h4 := (World.ownsRow.lt (ho r hr) g h2).2
    omega
theorem lone_heap {w : World} {base : Nat} {t : TypeId} {g : Nat} {C : List Value} (h : (lone t g C).own w base) : w.heap[g]? = some (.cells C.toArray t (0, 0)) := by
  rcases h.2 with ⟨h0, _⟩ | ⟨g', cap, cur, hv, hb, hg, hc, hm, hs, ht⟩
  · cases h0
  · cases hv
    rw [hg]
    congr 2
    apply Array.ext'
    have h1 : cur.toList.length = 1 * C.length := by simpa [lone] using hs
    have h2 : cur.toList.take (1 * C.length) = C := ht
    rw [← h1, List.take_length] at h2
    exact h2
theorem lone_cell {w : World} {base : Nat} {t : TypeId} {g : Nat} {C : List Value} (h : (lone t g C).own w base) (i : Nat) (v : Value) (hv : C[i]? = some v) : w.cell? ⟨g, i, none⟩ = some v ∧ w.frozen? ⟨g, i, none⟩ = false := by
  have h1 := lone_heap h
  refine ⟨?_, frozen_of_row _ _ i _ _ h1⟩
  unfold World.cell?
  rw [h1]
  simpa using hv
/-- the walk's rows, and others -/
def RR (g : Nat) (s : ByteArray) (tv fv ov : Value) (ns : List (Nd × Value)) (fr to : List Nat) (X : List Row) : List Row :=
  lone 64 g [.string s, tv, fv, ov] :: ⟨44, 5, tv, ns.length, ns.flatMap nc⟩ :: ⟨3, 1, fv, fr.length, fr.map (fun i : Nat => Value.int .i64 (i : Int))⟩ :: ⟨3, 1, ov, to.length, to.map (fun i : Nat => Value.int .i64 (i : Int))⟩ :: (ns.map kr ++ X)
structure RS (w0 : World) (g : Nat) (s : ByteArray) (tv fv ov : Value) (ns : List (Nd × Value)) (fr to : List Nat) (X : List Row) (W : World) : Prop where
  rows : Rw.Rows W w0.heap.size (RR g s tv fv ov ns fr to X)
  since : Since w0 W
section
variable {w0 : World} {g : Nat} {s : ByteArray} {tv fv ov : Value} {ns : List (Nd × Value)} {fr to : List Nat} {X : List Row} {W : World}
theorem RS.step {W' : World} (h : RS w0 g s tv fv ov ns fr to X W) (hb : Since W W') : RS w0 g s tv fv ov ns fr to X W' := ⟨h.rows.since hb, h.since.step hb⟩
theorem RS.cells (h : RS w0 g s tv fv ov ns fr to X W) : W.cell? ⟨g, 0, none⟩ = some (.string s) ∧ W.cell? ⟨g, 1, none⟩ = some tv ∧ W.cell? ⟨g, 2, none⟩ = some fv ∧ W.cell? ⟨g, 3, none⟩ = some ov ∧ ∀ i, W.frozen? ⟨g, i, none⟩ = false := by
  have h1 := h.rows.own (lone 64 g [.string s, tv, fv, ov]) (by unfold RR; simp)
  have h2 := lone_heap h1
  exact ⟨(lone_cell h1 0 _ rfl).1, (lone_cell h1 1 _ rfl).1, (lone_cell h1 2 _ rfl).1, (lone_cell h1 3 _ rfl).1, fun i => frozen_of_row _ _ i _ _ h2⟩
theorem RS.tvo (h : RS w0 g s tv fv ov ns fr to X W) : W.ownsRow w0.heap.size 44 5 tv ns.length (ns.flatMap nc) := h.rows.own ⟨44, 5, tv, ns.length, ns.flatMap nc⟩ (by unfold RR; simp)
/-- a block of its own besides -/
theorem RS.push (h : RS w0 g s tv fv ov ns fr to X W) (C : List Value) (t : TypeId) : RS w0 g s tv fv ov ns fr to (lone t W.heap.size C :: X) (W.alloc (.cells C.toArray t)) := by
  refine ⟨?_, h.since.alloc _⟩
  have h1 := rows_push h.rows (Below.size h.since) C t
  obtain ⟨ho, ha⟩ := h1
  have hp : (lone t W.heap.size C :: RR g s tv fv ov ns fr to X).Perm (RR g s tv fv ov ns fr to (lone t W.heap.size C :: X)) := by
    unfold RR
    have h2 : (ns.map kr ++ lone t W.heap.size C :: X).Perm (lone t W.heap.size C :: (ns.map kr ++ X)) := List.perm_middle
    refine List.Perm.trans ?_ (((h2.symm.cons _).cons _).cons _ |>.cons _)
    refine List.Perm.trans (List.Perm.swap _ _ _) (List.Perm.cons _ ?_)
    refine List.Perm.trans (List.Perm.swap _ _ _) (List.Perm.cons _ ?_)
    refine List.Perm.trans (List.Perm.swap _ _ _) (List.Perm.cons _ ?_)
    exact List.Perm.swap _ _ _
  exact ⟨fun r hr => ho r (hp.mem_iff.2 hr), (hp.pairwise_iff (fun h => Apart.symm h)).1 ha⟩
/-- the first of the others is given up -/
theorem RS.pop {x : Row} (h : RS w0 g s tv fv ov ns fr to (x :: X) W) : RS w0 g s tv fv ov ns fr to X W := by
  refine ⟨⟨fun r hr => h.rows.own r ?_, ?_⟩, h.since⟩
  · unfold RR at hr ⊢
    simp only [List.mem_cons, List.mem_append] at hr ⊢
    rcases hr with hr | hr | hr | hr | hr | hr
    · exact .inl hr
    · exact .inr (.inl hr)
    · exact .inr (.inr (.inl hr))
    · exact .inr (.inr (.inr (.inl hr)))
    · exact .inr (.inr (.inr (.inr (.inl hr))))
    · exact .inr (.inr (.inr (.inr (.inr (.inr hr)))))
  · refine List.Pairwise.sublist ?_ h.rows.apart
    unfold RR
    exact (((List.Sublist.append_left (List.sublist_cons_self x X) (ns.map kr)).cons_cons _).cons_cons _).cons_cons _ |>.cons_cons _
theorem RS.others (h : RS w0 g s tv fv ov ns fr to X W) : Rw.Rows W w0.heap.size X := by
  have h1 := h.rows
  unfold RR at h1
  have h2 := rows_drop (rows_drop (rows_drop (rows_drop h1)))
  exact rows_dropN _ h2
end
set_option maxRecDepth 100000 in
/-- append of cells that stand in a block, in a region that draws its order -/
theorem step_rows {T E : TypeId} {z : Value} {size bytes : Nat} (I : ElemIs T E z size bytes) {ops : Array Oper} {o : Oper} {a : Act} {K : Act → World → Prop} {Q : Exit → Act → World → Prop} {E' : Prop} (hgd : o.guard = none) (s x : Operand)
    (ho : o.op = .call { callee := .builtin .append, args := #[s, x], argTypes := #[T, T] })
    (w0 w : World) (A B : List Row) (v : Value) (n : Nat) (xs : List Value) (hs : a.eval s = v) (hown : Rw.Rows w w0.heap.size (A ++ ⟨E, size, v, n, xs⟩ :: B)) (hS : Since w0 w)
    (g0 : Nat) (ys : List Value) (c m : Nat) (hx : a.eval x = .slice (some ⟨g0, 0, none⟩) m c) (hc : ∀ j u, ys[j]? = some u → w.cell? ⟨g0, j, none⟩ = some u) (hl : ys.length = m * size) (hm : 0 < m) (h1 : ∀ u ∈ ys, u.oneCell' = true) (hn : n + m ≤ maxLen) (hby : (n + m) * bytes ≤ 140737488355328)
    (h : ∀ v' w', Rw.Rows w' w0.heap.size (A ++ ⟨E, size, v', n + m, xs ++ ys⟩ :: B) → Since w0 w' → K (a.put o.dst v') w') :
    if Region.wanted o (yielded ops a.tmps) = true then Oper.wp Try.prog o a w K Q else E' := by
  obtain ⟨ht, hi, hz, hs0⟩ := I
  obtain ⟨i, hi1, hi2⟩ := Option.map_eq_some_iff.1 hi
  simp only [Prod.mk.injEq] at hi2
  have hown1 := hown.get
  refine step_append_lies w hgd s x T ho w0.heap.size E i z size bytes ht hi1 hi2.1 hi2.2.1 hi2.2.2 hz hs0 v n xs hs hown1 ⟨g0, 0, none⟩ m c ys hx hl ?_ h1 hm hn hby (Below.size hS) w.heap.size rfl ?_
  · intro j u hu
    have hadd : (⟨g0, 0, none⟩ : Addr).add j = ⟨g0, j, none⟩ := by unfold Addr.add; split <;> simp_all
    rw [hadd]
    exact hc j u hu
  · intro g cap w' hown' hg hat hlt
    refine h _ w' (hown.turn ⟨E, size, _, n + m, xs ++ ys⟩ hown' fun u hu hap => ⟨?_, ?_⟩) (Below.grown hS hg (Below.size hS) (fun k hk => (hown1.lt k hk).1))
    · refine World.ownsRow.kept hu hg ?_
      cases hub : u.v.ownBlock with
      | none => exact Or.inl rfl
      | some b => exact Or.inr fun e => hap b e.symm hub
    · intro b h2 h3
      cases h2
      rcases hat with hat | hat
      · exact hap _ hat h3
      · have h4 : g < w.heap.size := (World.ownsRow.lt hu _ h3).2
        omega
section
variable {w0 : World} {g : Nat} {s : ByteArray} {tv fv ov : Value} {ns : List (Nd × Value)} {fr to : List Nat} {X : List Row} {W : World}
theorem rsD (h : Hid (RS w0 g s tv fv ov ns fr to X W)) : Hid (RS w0 g s tv fv ov ns fr to X W.drew) := Lib.hid (h.out.step (Since.drew (Since.refl _)))
theorem rsA (o : Obj) (h : Hid (RS w0 g s tv fv ov ns fr to X W)) : Hid (RS w0 g s tv fv ov ns fr to X (W.alloc o)) := Lib.hid (h.out.step (Since.alloc (Since.refl _) o))
theorem en_s {gN : Nat} {a b c d e : Value} (h : Hid (RS w0 g s tv fv ov ns fr to (lone 44 gN [a, b, c, d, e] :: X) W)) : Hid (RS w0 g s tv fv ov ns fr to (lone 44 gN [a, b, c, d, e] :: X) W) ∧ W.cell? ⟨g, 1, none⟩ = some tv ∧
    W.cell? ⟨gN, 0, none⟩ = some a ∧ W.cell? ⟨gN, 1, none⟩ = some b ∧ W.cell? ⟨gN, 2, none⟩ = some c ∧ W.cell? ⟨gN, 3, none⟩ = some d ∧ W.cell? ⟨gN, 4, none⟩ = some e := by
  have h1 := h.out.others.own (lone 44 gN [a, b, c, d, e]) (by simp)
  exact ⟨h, h.out.cells.2.1, (lone_cell h1 0 _ rfl).1, (lone_cell h1 1 _ rfl).1, (lone_cell h1 2 _ rfl).1, (lone_cell h1 3 _ rfl).1, (lone_cell h1 4 _ rfl).1⟩
theorem hd_s {gH : Nat} {a b c d : Value} (h : Hid (RS w0 g s tv fv ov ns fr to (lone 76 gH [a, b, c, d] :: X) W)) : Hid (RS w0 g s tv fv ov ns fr to (lone 76 gH [a, b, c, d] :: X) W) ∧ W.cell? ⟨g, 0, none⟩ = some (.string s) ∧
    W.cell? ⟨gH, 0, none⟩ = some a ∧ W.cell? ⟨gH, 1, none⟩ = some b ∧ W.cell? ⟨gH, 2, none⟩ = some c ∧ W.cell? ⟨gH, 3, none⟩ = some d := by
  have h1 := h.out.others.own (lone 76 gH [a, b, c, d]) (by simp)
  exact ⟨h, h.out.cells.1, (lone_cell h1 0 _ rfl).1, (lone_cell h1 1 _ rfl).1, (lone_cell h1 2 _ rfl).1, (lone_cell h1 3 _ rfl).1⟩
theorem RS.lt (h : RS w0 g s tv fv ov ns fr to X W) : g < W.heap.size := (Array.getElem?_eq_some_iff.1 (lone_heap (h.rows.own (lone 64 g [.string s, tv, fv, ov]) (by unfold RR; simp)))).1
theorem RS.ltX {t : TypeId} {gb : Nat} {C : List Value} (h : RS w0 g s tv fv ov ns fr to (lone t gb C :: X) W) : gb < W.heap.size := (Array.getElem?_eq_some_iff.1 (lone_heap (h.others.own (lone t gb C) (by simp)))).1
theorem rsS {W' : World} (hb : Since W W') (h : Hid (RS w0 g s tv fv ov ns fr to X W)) : Hid (RS w0 g s tv fv ov ns fr to X W') := Lib.hid (h.out.step hb)
theorem alloc_cell (w : World) (C : List Value) (t : TypeId) (j : Nat) (u : Value) (h : C[j]? = some u) : (w.alloc (.cells C.toArray t)).cell? ⟨w.heap.size, j, none⟩ = some u := by
  unfold World.cell?
  rw [heap_alloc_new]
  simpa using h
theorem far_cell {W6 W4 : World} {g : Nat} (h : g < W4.heap.size) (i j : Nat) (v : Value) : (W6.setCell ⟨g, i, none⟩ v).cell? ⟨W4.heap.size, j, none⟩ = W6.cell? ⟨W4.heap.size, j, none⟩ := by
  unfold World.cell?
  rw [heap_setCell_other W6 ⟨g, i, none⟩ W4.heap.size v (by show W4.heap.size ≠ g; omega)]
theorem alloc_cell_at (w : World) (C : List Value) (t : TypeId) (G : Nat) (hG : w.heap.size = G) (j : Nat) (u : Value) (h : C[j]? = some u) : (w.alloc (.cells C.toArray t)).cell? ⟨G, j, none⟩ = some u := by
  subst hG
  exact alloc_cell w C t j u h
theorem lone_base {w : World} {base : Nat} {t : TypeId} {C : List Value} (h : (lone t g C).own w base) : base ≤ g := by
  rcases h.2 with ⟨h0, _⟩ | ⟨g', cap, cur, hv, hb, _⟩
  · cases h0
  · cases hv; exact hb
theorem rs_node {tv2 : Value} {c t : Int} {b : Bool} {d : ByteArray} (hQ : Rw.Rows W w0.heap.size ([lone 64 g [.string s, tv, fv, ov]] ++ ⟨44, 5, tv2, ns.length + 1, ns.flatMap nc ++ [.int .i64 c, .int .i64 t, .bool b, .string d, .slice none 0 0]⟩ :: ((RR g s tv fv ov ns fr to X).drop 2))) (hS : Since w0 W) :
    RS w0 g s tv2 fv ov (ns ++ [(⟨c, t, b, d, []⟩, .slice none 0 0)]) fr to X (W.setCell ⟨g, 1, none⟩ tv2) := by
  have hg := lone_base (hQ.own (lone 64 g [.string s, tv, fv, ov]) (by simp))
  have h1 := Rw.Rows.set (A := []) (B := ⟨44, 5, tv2, ns.length + 1, ns.flatMap nc ++ [.int .i64 c, .int .i64 t, .bool b, .string d, .slice none 0 0]⟩ :: ((RR g s tv fv ov ns fr to X).drop 2)) (e := 64) (k := 4) (g := g) (n := 1) (c := 1) (xs := [.string s, tv, fv, ov]) hQ 1 (by decide) tv2
  refine ⟨?_, Below.setCell (p := ⟨g, 1, none⟩) hS hg _⟩
  have h2 := rows_ins (⟨64, 4, .slice (some ⟨g, 0, none⟩) 1 1, 1, [.string s, tv2, fv, ov]⟩ :: ⟨44, 5, tv2, ns.length + 1, ns.flatMap nc ++ [.int .i64 c, .int .i64 t, .bool b, .string d, .slice none 0 0]⟩ :: ⟨3, 1, fv, fr.length, fr.map (fun i : Nat => Value.int .i64 (i : Int))⟩ :: ⟨3, 1, ov, to.length, to.map (fun i : Nat => Value.int .i64 (i : Int))⟩ :: ns.map kr) X h1 3 1
  have e1 : RR g s tv2 fv ov (ns ++ [(⟨c, t, b, d, []⟩, .slice none 0 0)]) fr to X = (⟨64, 4, .slice (some ⟨g, 0, none⟩) 1 1, 1, [.string s, tv2, fv, ov]⟩ :: ⟨44, 5, tv2, ns.length + 1, ns.flatMap nc ++ [.int .i64 c, .int .i64 t, .bool b, .string d, .slice none 0 0]⟩ :: ⟨3, 1, fv, fr.length, fr.map (fun i : Nat => Value.int .i64 (i : Int))⟩ :: ⟨3, 1, ov, to.length, to.map (fun i : Nat => Value.int .i64 (i : Int))⟩ :: ns.map kr) ++ ⟨3, 1, .slice none 0 0, 0, []⟩ :: X := by
    unfold RR
    rw [List.map_append, List.length_append, List.flatMap_append, List.append_assoc]
    show _ = _ :: _ :: _ :: _ :: (ns.map kr ++ _ :: X)
    simp only [List.flatMap_cons, List.flatMap_nil, List.append_nil, List.map_cons, List.map_nil]
    rfl
  rw [e1]
  exact h2
theorem rr_from (g : Nat) (s : ByteArray) (tv fv ov : Value) (ns : List (Nd × Value)) (fr to : List Nat) (X : List Row) : RR g s tv fv ov ns fr to X = [lone 64 g [.string s, tv, fv, ov], ⟨44, 5, tv, ns.length, ns.flatMap nc⟩] ++ ⟨3, 1, fv, fr.length, fr.map (fun i : Nat => Value.int .i64 (i : Int))⟩ :: ((RR g s tv fv ov ns fr to X).drop 3) := rfl
theorem rr_to (g : Nat) (s : ByteArray) (tv fv ov : Value) (ns : List (Nd × Value)) (fr to : List Nat) (X : List Row) : RR g s tv fv ov ns fr to X = [lone 64 g [.string s, tv, fv, ov], ⟨44, 5, tv, ns.length, ns.flatMap nc⟩, ⟨3, 1, fv, fr.length, fr.map (fun i : Nat => Value.int .i64 (i : Int))⟩] ++ ⟨3, 1, ov, to.length, to.map (fun i : Nat => Value.int .i64 (i : Int))⟩ :: ((RR g s tv fv ov ns fr to X).drop 4) := rfl
theorem rs_from {fv2 : Value} {p : Nat} (h : Rw.Rows W w0.heap.size ([] ++ ⟨64, 4, .slice (some ⟨g, 0, none⟩) 1 1, 1, [Value.string s, tv, fv, ov].set 2 fv2⟩ :: ([⟨44, 5, tv, ns.length, ns.flatMap nc⟩] ++ ⟨3, 1, fv2, fr.length + 1, fr.map (fun i : Nat => Value.int .i64 (i : Int)) ++ [.int .i64 (p : Int)]⟩ :: ((RR g s tv fv ov ns fr to X).drop 3)))) (hS : Since w0 W) :
    RS w0 g s tv fv2 ov ns (fr ++ [p]) to X W := by
  refine ⟨?_, hS⟩
  unfold RR
  rw [List.length_append, List.map_append]
  exact h
theorem rs_to {ov2 : Value} {p : Nat} {q : Int} (hq : q = (p : Int)) (h : Rw.Rows W w0.heap.size ([] ++ ⟨64, 4, .slice (some ⟨g, 0, none⟩) 1 1, 1, [Value.string s, tv, fv, ov].set 3 ov2⟩ :: ([⟨44, 5, tv, ns.length, ns.flatMap nc⟩, ⟨3, 1, fv, fr.length, fr.map (fun i : Nat => Value.int .i64 (i : Int))⟩] ++ ⟨3, 1, ov2, to.length + 1, to.map (fun i : Nat => Value.int .i64 (i : Int)) ++ [.int .i64 q]⟩ :: ((RR g s tv fv ov ns fr to X).drop 4)))) (hS : Since w0 W) :
    RS w0 g s tv fv ov2 ns fr (to ++ [p]) X W := by
  subst hq
  refine ⟨?_, hS⟩
  unfold RR
  rw [List.length_append, List.map_append]
  exact h
theorem RS.setX {t : TypeId} {gb : Nat} {C : List Value} (h : RS w0 g s tv fv ov ns fr to (lone t gb C :: X) W) (i : Nat) (hi : i < C.length) (v : Value) : RS w0 g s tv fv ov ns fr to (lone t gb (C.set i v) :: X) (W.setCell ⟨gb, i, none⟩ v) := by
  have hb := lone_base (h.others.own (lone t gb C) (by simp))
  refine ⟨?_, Below.setCell (p := ⟨gb, i, none⟩) h.since hb _⟩
  have e1 : ∀ Y, RR g s tv fv ov ns fr to Y = (lone 64 g [.string s, tv, fv, ov] :: ⟨44, 5, tv, ns.length, ns.flatMap nc⟩ :: ⟨3, 1, fv, fr.length, fr.map (fun i : Nat => Value.int .i64 (i : Int))⟩ :: ⟨3, 1, ov, to.length, to.map (fun i : Nat => Value.int .i64 (i : Int))⟩ :: ns.map kr) ++ Y := fun Y => rfl
  have h1 := h.rows
  rw [e1] at h1 ⊢
  have h2 := Rw.Rows.set (e := t) (k := C.length) (g := gb) (n := 1) (c := 1) (xs := C) h1 i (by omega) v
  have e2 : lone t gb (C.set i v) = ⟨t, C.length, .slice (some ⟨gb, 0, none⟩) 1 1, 1, C.set i v⟩ := by unfold lone; rw [List.length_set]
  rw [e2]
  exact h2
end
end Tlv
end Go.Proofs.Ytihpndfjcgodiaa

/- Package clavigerref19: faulty, Pieces. -/
namespace Go.Proofs.Ytihpndfjcgodiaa
open Go.RowKit
namespace Tlv
open Span Flt Rw
set_option maxRecDepth 100000 in
theorem app_one_h {T E : TypeId} {z : Value} {bytes : Nat} (I : ElemIs T E z 1 bytes) {ops : Array Oper} {rest : List Oper} {o : Oper} {a : Act} {Q : Exit → Act → World → Prop} (hgd : o.guard = none) (s x : Operand)
    (ho : o.op = .call { callee := .builtin .append, args := #[s, x], argTypes := #[T, T] })
    (w0 wr : World) (H : Nat) (hH : wr.heap.size = H) (v : Value) (n : Nat) (xs : List Value) (hs : a.eval s = v) (hown : wr.ownsRow w0.heap.size E 1 v n xs) (hS : Since w0 wr)
    (y : Value) (hx : a.eval x = .slice (some ⟨H, 0, none⟩) 1 1) (h1 : y.oneCell' = true) (hn : n ≤ 1099511627776) (hby : bytes ≤ 64)
    (h : ∀ v' w', w'.ownsRow w0.heap.size E 1 v' (n + 1) (xs ++ [y]) → Since w0 w' → KeptBut wr w' v → wpList Try.prog ops Q rest (a.put o.dst v') w') :
    wpList Try.prog ops Q (o :: rest) a (wr.alloc (.cells #[y] E)) := by
  subst hH
  refine app_own_k I hgd s x ho w0 wr v n xs hs hown hS #[y] 1 1 hx rfl (fun u hu => by simp at hu; subst hu; exact h1) (by unfold maxLen; omega) (Nat.le_trans (Nat.mul_le_mul (show n + 1 ≤ 1099511627777 by omega) hby) (by decide)) h
theorem results_c {P : Program} {fn : Func} {p : Tmp} {ty : TypeId} (h : fn.results = #[.cell p ty]) (tmps : Array Value) (w : World) (g : Nat) (t : TypeId) (cs : Array Value) (fr : Nat × Nat) (d : TypeDesc)
    (hp : tmps.getD p undef = .pointer (some ⟨g, 0, none⟩)) (hg : w.heap[g]? = some (.cells cs t fr))
    (hu : P.underlying ty = some d) (hd : (match d with | .struct _ | .array _ _ => true | _ => false) = true) (hi : (P.info? ty).map (·.size) = some cs.size) :
    (results fn tmps).run P w = .ok (.agg cs) w := by
  have hp' : tmps[p]?.getD undef = .pointer (some ⟨g, 0, none⟩) := by simpa using hp
  simp [results, h, hp', asAddr, run_loadVar_row w g t ty cs fr d hg hu hd hi]
set_option maxRecDepth 100000 in
theorem faulty_mak (c p : Int) : Mak 44 #[.int .i64 c, .int .i64 p] (.agg (F2 c p)) := by
  intro w
  have hr0 : Hid (HR w w.heap.size (F2 0 0) 27 (w.alloc (.cells (F2 0 0) 27))) := Lib.hid ⟨heap_alloc_new w _⟩
  have HS : Hid (Since w (w.alloc (.cells (F2 0 0) 27))) := Lib.hid ((Since.refl w).alloc _)
  unfold F2 at hr0 HS
  go_enter Try.func44, Try.ntmps44
  go_wp2_with (refine wpList_store_row rfl 27 _ _ rfl w.heap.size (F2 c p) (by rfl) (by rfl) _ _ hr0.out.row (f2_info c p) rfl (f2_one c p) ?_)
  exact bodyPost_ret (v := .agg (F2 c p)) (results_c Try.results44 _ _ _ _ _ _ _ rfl (setRow_heap _ _ _ _ _ _ hr0.out.row) Try.underlying27 rfl (f2_info c p)) rfl ⟨rfl, below_setRow HS.out (Nat.le_refl _) _⟩
set_option maxRecDepth 100000 in
set_option maxHeartbeats 8000000 in
theorem rpieces_t (s : ByteArray) (hs : s.size ≤ 65535) (T : Except (Nat × Nat) (List ByteArray)) (hT : pcsF s (s.size + 1) 0 = T) (w : World) : Calls Try.prog 18 #[.string s] w (PPost w T) := by
  have h1 : decide ((65535 : Int) < (s.size : Int)) = false := decide_eq_false (by omega)
  have h2 : decide (65535 < s.size) = false := decide_eq_false (by omega)
  have HT : Hid (prepE [] (pcsF s (s.size + 1) 0) = T) := Lib.hid (by rw [hT]; cases T <;> rfl)
  have HR0 : Hid ((w.alloc (.cells #[.int .i64 0, .int .i64 0] 27)).ownsRow (w.alloc (.cells #[.int .i64 0, .int .i64 0] 27)).heap.size 9 1 (.slice none 0 0) ([] : List ByteArray).length (([] : List ByteArray).map Value.string)) := Lib.hid (World.ownsRow_nil _ _ _ _)
  have HS0 : Hid (Since (w.alloc (.cells #[.int .i64 0, .int .i64 0] 27)) (w.alloc (.cells #[.int .i64 0, .int .i64 0] 27))) := Lib.hid (Since.refl _)
  clear hT
  go_enter Try.func18, Try.ntmps18
  go_wp2_with fail
  go_loopw [4, 5] (fun lv rv wr => ∃ (p f : Nat) (L : List ByteArray) (A : Option Addr) (cc : Nat), p ≤ s.size ∧ lv = .slice A L.length cc ∧ rv = .int .i64 (p : Int) ∧ Hid (L.length ≤ p) ∧ Hid (s.size - p < f) ∧ Hid (prepE L (pcsF s f p) = T) ∧ Hid (wr.ownsRow (w.alloc (.cells #[.int .i64 0, .int .i64 0] 27)).heap.size 9 1 lv L.length (L.map Value.string)) ∧ Hid (Since (w.alloc (.cells #[.int .i64 0, .int .i64 0] 27)) wr)) (fun lv _ _ => s.size + 1 - lenOf lv)
  case atStart => exact ⟨0, s.size + 1, [], none, 0, Nat.zero_le _, rfl, rfl, Lib.hid (Nat.zero_le _), Lib.hid (by omega), HT, HR0, HS0⟩
  case round =>
    clear HT HR0 HS0
    obtain ⟨p, f, L, A, cc, hp, rfl, rfl, HLp, HF, HT, HRo, HS⟩ := hrel
    obtain ⟨f, rfl⟩ : ∃ f', f = f' + 1 := ⟨f - 1, by have := HF.out; omega⟩
    by_cases hlt : p < s.size
    · have t1 : decide ((p : Int) < (s.size : Int)) = true := decide_eq_true (by omega)
      have t2 : decide (p < s.size) = true := decide_eq_true hlt
      have hpn : ¬ s.size ≤ p := by omega
      have i1 : (p : Int) ≤ (s.size : Int) := by omega
      have i2 : (0 : Int) ≤ (p : Int) := by omega
      obtain ⟨hh, k, x, hq⟩ : ∃ hh k x, Head.dec (s.extract p s.size).data.toList = (hh, k, x) := ⟨_, _, _, rfl⟩
      have c3 := RefHead.rd_mak (s.extract p s.size) (by rw [ByteArray.size_extract]; omega) _ rfl
      rw [hq] at c3
      unfold Head.decV Head.hdV at c3
      dsimp only at c3
      by_cases hx : x ≠ 0
      · obtain ⟨X, hX⟩ : ∃ X : Int, X = (x : Int) := ⟨_, rfl⟩
        rw [← hX] at c3
        have hX0 : (X != 0) = true := by rw [bne_iff_ne]; omega
        have hW : ∀ w', Since w w' → PPost w T (.returned (.tuple #[.slice none 0 0, .agg (F2 X (p : Int))])) w' := by
          intro w' h
          rw [← HT.out, pcs_bad s f p L hpn hh k x hq hx, hX]
          exact ⟨rfl, h⟩
        have HW := Lib.hid hW
        clear hW hX hx hq HT HF HLp HRo
        go_wp2_with fail
        refine c3.calls0 ?_
        intro w1 h1
        have HS1 := Lib.hid ((HS.out.step h1).alloc (.cells #[.int .i64 (hh.c : Int), .int .i64 (hh.t : Int), .bool hh.b, .int .i64 (hh.n : Int)] 76))
        clear h1
        go_wp2_with fail
        refine (faulty_mak X (p : Int)).calls0 ?_
        intro w2 h2
        have hr0 := Lib.hid (HR.step (w := w) ⟨heap_alloc_new w (.cells #[.int .i64 0, .int .i64 0] 27)⟩ (HS1.out.step h2))
        have HSw := Lib.hid ((Since.alloc (Since.refl w) _).step (HS1.out.step h2))
        clear h2
        go_wp2_with (refine wpList_store_row rfl 27 _ _ rfl w.heap.size (F2 X (p : Int)) (by rfl) (by rfl) _ _ hr0.out.row (f2_info X (p : Int)) rfl (f2_one X (p : Int)) ?_)
        exact bodyPost_ret (v := .tuple #[.slice none 0 0, .agg (F2 X (p : Int))]) (results_t_cell Try.results18 _ _ _ _ _ _ _ _ rfl rfl (setRow_heap _ _ _ _ _ _ hr0.out.row) Try.underlying27 rfl (f2_info X (p : Int))) rfl (HW.out _ (below_setRow HSw.out (Nat.le_refl _) _))
      obtain rfl : x = 0 := by omega
      obtain ⟨g1, g2, g3, g4, g5⟩ := Head.enc_dec _ _ _ hq
      have gl : (Head.encL hh.c hh.t hh.b hh.n).length = k := by rw [g5, List.length_take]; omega
      have gk := (Head.encL_len hh.c hh.t hh.b hh.n).1
      have g2' : 2 ≤ k := by
        rw [← gl]
        unfold Head.encL Head.tagL Head.lenL Head.seg
        simp only [List.length_append]
        split <;> (try split) <;> (try split) <;> (try split) <;> (try split) <;> simp
      obtain ⟨N, hN⟩ : ∃ N : Int, N = (hh.n : Int) := ⟨_, rfl⟩
      obtain ⟨C, hC⟩ : ∃ C : Int, C = (hh.c : Int) := ⟨_, rfl⟩
      obtain ⟨U, hU⟩ : ∃ U : Int, U = (hh.t : Int) := ⟨_, rfl⟩
      have hw1 : IntKind.i64.wrap ((p : Int) + (k : Int)) = (p : Int) + (k : Int) := IntWalk.i64_in _ (by omega)
      by_cases hf : s.size - p < k + hh.n
      · have hW : ∀ w', Since w w' → PPost w T (.returned (.tuple #[.slice none 0 0, .agg (F2 5 (p : Int))])) w' := by
          intro w' h
          rw [← HT.out, pcs_far s f p L hpn hh k hq hf]
          exact ⟨rfl, h⟩
        have HW := Lib.hid hW
        obtain ⟨Q, hQ⟩ : ∃ Q : Int, Q = (p : Int) + (k : Int) := ⟨_, rfl⟩
        obtain ⟨Z, hZ⟩ : ∃ Z : Int, Z = Q + N := ⟨_, rfl⟩
        have hw2 : IntKind.i64.wrap Z = Z := IntWalk.i64_in _ (by omega)
        have t5 : decide ((s.size : Int) < Z) = true := decide_eq_true (by omega)
        rw [← hC, ← hU, ← hN] at c3
        rw [← hQ] at hw1
        clear hW hx hq HT HF HLp HRo g1 g2 g3 g4 g5 gl gk g2' hf hN hC hU
        have HQ := Lib.hid hQ
        have HZ := Lib.hid hZ
        go_wp2_with fail
        refine c3.calls0 ?_
        intro w1 h1
        have HS1 := Lib.hid ((HS.out.step h1).alloc (.cells #[.int .i64 C, .int .i64 U, .bool hh.b, .int .i64 N] 76))
        have hp := Lib.hid (hb_new w1 KT trivial #[.int .i64 C, .int .i64 U, .bool hh.b, .int .i64 N] 76)
        have m3 := hp.out.cell 3 _ rfl
        clear h1
        rw [hZ, hQ] at hw2 t5
        rw [hQ] at hw1
        clear hQ hZ
        go_wp2_with fail
        refine (faulty_mak 5 (p : Int)).calls0 ?_
        intro w2 h2
        have hr0 := Lib.hid (HR.step (w := w) ⟨heap_alloc_new w (.cells #[.int .i64 0, .int .i64 0] 27)⟩ (HS1.out.step h2))
        have HSw := Lib.hid ((Since.alloc (Since.refl w) _).step (HS1.out.step h2))
        clear h2
        go_wp2_with (refine wpList_store_row rfl 27 _ _ rfl w.heap.size (F2 5 (p : Int)) (by rfl) (by rfl) _ _ hr0.out.row (f2_info 5 (p : Int)) rfl (f2_one 5 (p : Int)) ?_)
        exact bodyPost_ret (v := .tuple #[.slice none 0 0, .agg (F2 5 (p : Int))]) (results_t_cell Try.results18 _ _ _ _ _ _ _ _ rfl rfl (setRow_heap _ _ _ _ _ _ hr0.out.row) Try.underlying27 rfl (f2_info 5 (p : Int))) rfl (HW.out _ (below_setRow HSw.out (Nat.le_refl _) _))
      obtain ⟨e2, he2⟩ : ∃ e2, e2 = p + (k + hh.n) := ⟨_, rfl⟩
      obtain ⟨D, hD⟩ : ∃ D, D = s.extract p e2 := ⟨_, rfl⟩
      have HT2 : Hid (prepE (L ++ [D]) (pcsF s f e2) = T) := Lib.hid (by rw [← HT.out, pcs_one s f p L hpn hh k hq hf, hD, he2])
      have HL2 : Hid ((L ++ [D]).length ≤ e2) := Lib.hid (by rw [List.length_append, List.length_singleton]; have := HLp.out; omega)
      have HF2 : Hid (s.size - e2 < f) := Lib.hid (by have := HF.out; omega)
      have HE2 : Hid (e2 ≤ s.size) := Lib.hid (by omega)
      have hL9 : L.length ≤ 1099511627776 := by have := HLp.out; omega
      have HM : Hid (L.length + 1 ≤ s.size) := Lib.hid (by have := HLp.out; omega)
      have hw2 : IntKind.i64.wrap ((p : Int) + (k : Int) + N) = (e2 : Int) := by rw [show (p : Int) + (k : Int) + N = (e2 : Int) by omega]; exact IntWalk.i64_in _ (by omega)
      have t5 : decide ((s.size : Int) < (e2 : Int)) = false := decide_eq_false (by omega)
      have t6 : decide (s.size < e2) = false := decide_eq_false (by omega)
      have i3 : (p : Int) ≤ (e2 : Int) := by omega
      have i4 : (e2 : Int) ≤ (s.size : Int) := by omega
      have i5 : (0 : Int) ≤ (e2 : Int) := by omega
      have hD' := Lib.hid hD
      rw [← hC, ← hU, ← hN] at c3
      clear HT HF HLp hq hx hf g1 g2 g3 g4 g5 gl gk g2' he2 hD hN hC hU
      go_wp2_with fail
      refine c3.calls0 ?_
      intro w1 h1
      have hW9 := Lib.hid (show Since wr w1 from h1)
      have HS1 := Lib.hid ((HS.out.step h1).alloc (.cells #[.int .i64 C, .int .i64 U, .bool hh.b, .int .i64 N] 76))
      have HR1 := Lib.hid (World.ownsRow.alloc (Att.row_since HRo.out h1) (.cells #[.int .i64 C, .int .i64 U, .bool hh.b, .int .i64 N] 76))
      have hp := Lib.hid (hb_new w1 KT trivial #[.int .i64 C, .int .i64 U, .bool hh.b, .int .i64 N] 76)
      have m3 := hp.out.cell 3 _ rfl
      clear h1 HS hp
      go_wp2_with (at_builtin; refine app_one_h elemS rfl _ _ (by rfl) (w.alloc (.cells #[.int .i64 0, .int .i64 0] 27)) (w1.alloc (.cells #[.int .i64 C, .int .i64 U, .bool hh.b, .int .i64 N] 76)) (w1.heap.size + 1) (by simp) _ L.length _ (by rfl) HR1.out HS1.out (.string (s.extract p e2)) (by rfl) rfl hL9 (by decide) ?_; intro v2 w2 hO hS2 hk9; obtain ⟨A2, c9, rfl⟩ : ∃ A c, v2 = .slice A (L.length + 1) c := own_any hO; have HO := Lib.hid hO; have HS2 := Lib.hid hS2; have k3 := (hk9.cell (p := ⟨w1.heap.size, 3, none⟩) (by simp) (own_lt HRo.out (Below.size hW9.out))).trans m3; clear hO hS2 m3 hk9)
      go_round
      case rel => exact ⟨e2, f, L ++ [D], A2, c9, HE2.out, by rw [List.length_append]; rfl, rfl, HL2, HF2, HT2, Lib.hid (by rw [List.length_append, List.map_append, hD'.out]; exact HO.out), HS2⟩
      case measure => show s.size + 1 - (L.length + 1) < s.size + 1 - L.length; have := HM.out; omega
    · have t1 : decide ((p : Int) < (s.size : Int)) = false := decide_eq_false (by omega)
      have t2 : decide (p < s.size) = false := decide_eq_false hlt
      have HOK : Hid (T = .ok L) := Lib.hid (by rw [← HT.out]; exact pcs_end s f p L (by omega))
      have hr0 := Lib.hid (HR.step (w := w) ⟨heap_alloc_new w (.cells #[.int .i64 0, .int .i64 0] 27)⟩ HS.out)
      have HSw := Lib.hid ((Since.alloc (Since.refl w) _).step HS.out)
      clear HT HF HLp
      go_wp2_with (refine wpList_store_row rfl 27 _ _ rfl w.heap.size (F2 0 0) (by rfl) (by rfl) _ _ hr0.out.row (f2_info 0 0) rfl (f2_one 0 0) ?_)
      have hself : wr.setRow w.heap.size (F2 0 0) = wr := setRow_self _ _ _ _ _ hr0.out.row
      rw [hself]
      refine bodyPost_ret (v := .tuple #[.slice A L.length cc, .agg (F2 0 0)]) (results_t_cell Try.results18 _ _ _ _ _ _ _ _ rfl rfl hr0.out.row Try.underlying27 rfl (f2_info 0 0)) rfl ?_
      rw [HOK.out]
      exact ⟨_, rfl, strs_own HRo.out, HSw.out⟩
end Tlv
end Go.Proofs.Ytihpndfjcgodiaa
