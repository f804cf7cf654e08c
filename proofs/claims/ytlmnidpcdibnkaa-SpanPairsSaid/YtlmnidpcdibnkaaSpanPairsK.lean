/- The law SpanPairs: whether a span is inside another one, or apart from it, and how many bytes spans have, is as the document says; no conditions. -/
import Derived.Test.YtlmnidpcdibnkaaRows
import Derived.WalkKit
import Derived.ProofKit
import Derived.OpenShut
import Derived.Lib.Hide
import Derived.Test.YtlmnidpcdibnkaaSp9
import Derived.Test.YtlmnidpcdibnkaaSp8
import Derived.Test.YtlmnidpcdibnkaaSp4
import Derived.BigQuiet
namespace Go.Proofs.Ytlmnidpcdibnkaa.spanPairs
open Go.ChangeShapes Go.WideShapes Go.ChangeAt Go.RowKit
open Span Flt

set_option maxRecDepth 100000 in
theorem elemC : ElemIs 35 23 (.complex .f64 0 0) 1 16 := ⟨Try.underlying35, by kernel_rfl, rfl, by decide⟩
def okP (p : Int × Int) : Option (Nat × Nat) := if MayD p.1 p.2 then some (p.1.toNat, p.2.toNat) else none
theorem okP_sp (p : Int × Int) (q : Nat × Nat) (h : okP p = some q) : Sp q.1 q.2 := by
  unfold okP at h
  split at h
  · rename_i hm
    obtain ⟨m1, m2, m3⟩ := hm
    cases h
    exact ⟨by show p.1.toNat ≤ p.2.toNat; omega, by show p.2.toNat ≤ 65552; omega⟩
  · cases h
theorem okP_sp' (l : List (Int × Int)) (q : Nat × Nat) (h : q ∈ l.filterMap okP) : Sp q.1 q.2 := by
  obtain ⟨p, _, hp⟩ := List.mem_filterMap.1 h
  exact okP_sp p q hp
def pf (p : Int × Int) : List Value := [.int .i64 p.1, .int .i64 p.2]
theorem second (x y : Nat) (h : Sp x y) (z u : Int) : ∃ C D q p r, Ret 10 #[.int .i64 z, .int .i64 u] (.complex .f64 C D) ∧ Ret 11 #[.int .i64 z, .int .i64 u] (.bool q) ∧
    Hid (q = true → Ret 19 #[.complex .f64 (fl (x : Int)) (fl (y : Int)), .complex .f64 C D] (.bool p) ∧ Ret 20 #[.int .i64 (x : Int), .int .i64 (y : Int), .int .i64 z, .int .i64 u] (.bool p) ∧
      Ret 21 #[.complex .f64 (fl (x : Int)) (fl (y : Int)), .complex .f64 C D] (.bool r) ∧ Ret 22 #[.int .i64 (x : Int), .int .i64 (y : Int), .int .i64 z, .int .i64 u] (.bool r)) := by
  by_cases hm : MayD z u
  · have h2 := hm
    obtain ⟨m1, m2, m3⟩ := h2
    obtain ⟨a, rfl⟩ := Int.eq_ofNat_of_zero_le m1
    obtain ⟨b, rfl⟩ := Int.eq_ofNat_of_zero_le (show 0 ≤ u by omega)
    have hs : Sp a b := ⟨by omega, by omega⟩
    exact ⟨_, _, true, _, _, of_yes a b hs, rmay_ret _ _ true (decide_eq_true hm).symm, Lib.hid fun _ => ⟨inside_ret x y a b h hs _ rfl, rinside_ret x y a b h hs _ rfl, apart_ret x y a b h hs _ rfl, rapart_ret x y a b h hs _ rfl⟩⟩
  · exact ⟨0, 0, false, false, false, of_no z u hm, rmay_ret _ _ false (decide_eq_false hm).symm, Lib.hid fun h => by cases h⟩
theorem belowN (w : World) (q : Nat) : Below w.heap.size w (w.drewN q) := ⟨rfl, rfl, rfl, Nat.le_refl _, fun _ _ => rfl⟩
theorem own_since {w w' : World} {base : Nat} {E : TypeId} {size : Nat} {v : Value} {n : Nat} {xs : List Value} (h : w.ownsRow base E size v n xs) (hs : Since w w') : w'.ownsRow base E size v n xs := by
  obtain ⟨h1, h2⟩ := h
  refine ⟨h1, ?_⟩
  rcases h2 with h2 | ⟨g, cap, cur, rfl, hb, hg, r⟩
  · exact Or.inl h2
  · exact Or.inr ⟨g, cap, cur, rfl, hb, (Below.block hs g (Array.getElem?_eq_some_iff.1 hg).1).trans hg, r⟩
set_option maxRecDepth 100000 in
set_option maxHeartbeats 4000000 in
theorem core (w : World) (b o n c : Nat) (l : List (Int × Int)) (h : SlR w 2 (.slice (some ⟨b, o, none⟩) n c) n (l.flatMap pf)) (hb : b < w.heap.size) (hn : n = l.length) (hc : n ≤ c) (hn0 : 0 < n) (hm : n ≤ 30) :
    Calls Try.prog 4 #[.slice (some ⟨b, o, none⟩) n c] w fun x w' => x = .returned (.bool true) ∧ Since w w' := by
  have t1 : decide ((30 : Int) < (n : Int)) = false := decide_eq_false (by omega)
  have HR : Hid (∀ i a, l[i]? = some a → w.rangeAt b (o + i * 2) (pf a)) := Lib.hid (fun i a hi => SlR.range (f := pf) (k := 2) (fun _ => rfl) h hn i a hi)
  have HN := Lib.hid hn
  clear h hn
  go_enter Try.func4, Try.ntmps4
  go_wp2_with fail
  go_loopw [3, 4, 5, 18] (fun s m t i wr => ∃ k : Nat, k ≤ n ∧ i = .int .i64 (k : Int) ∧ ∃ L, Hid (L = (l.take k).filterMap okP) ∧ m = .int .i64 (L.length : Int) ∧ t = .int .i64 (total L : Int) ∧ L.length ≤ 30 ∧ total L ≤ 3000000 ∧
      Hid (wr.ownsRow w.heap.size 23 1 s L.length (L.map fun p => cx p.1 p.2)) ∧ Hid (Since w wr)) (fun _ _ _ i _ => n - (intOf i).toNat)
  case atStart => exact ⟨0, by omega, rfl, [], Lib.hid rfl, rfl, rfl, by decide, by decide, Lib.hid ⟨rfl, Or.inl ⟨rfl, rfl⟩⟩, Lib.hid (Since.refl w)⟩
  case round =>
    obtain ⟨k, hk, rfl, L, HL, rfl, rfl, hL1, hL2, HO, HS⟩ := hrel
    by_cases hlt : k < n
    · obtain ⟨⟨x, y⟩, hp⟩ : ∃ p, l[k]? = some p := ⟨l[k]'(by rw [← HN.out]; exact hlt), List.getElem?_eq_getElem _⟩
      have hr := range_below (HR.out k _ hp) HS.out hb
      have m0 : wr.cell? ⟨b, o + k * 2, none⟩ = some (.int .i64 x) := hr 0 _ rfl
      have m1 : wr.cell? ⟨b, o + k * 2 + 1, none⟩ = some (.int .i64 y) := hr 1 _ rfl
      clear hr
      have c1 : ∃ A B q, Ret 10 #[.int .i64 x, .int .i64 y] (.complex .f64 A B) ∧ Ret 11 #[.int .i64 x, .int .i64 y] (.bool q) ∧ Hid (q = decide (MayD x y)) ∧ Hid (q = true → A = fl x ∧ B = fl y) := by
        by_cases h : MayD x y
        · have h2 := h
          obtain ⟨m1, m2, m3⟩ := h2
          obtain ⟨x', rfl⟩ := Int.eq_ofNat_of_zero_le m1
          obtain ⟨y', rfl⟩ := Int.eq_ofNat_of_zero_le (show 0 ≤ y by omega)
          exact ⟨_, _, true, of_yes _ _ ⟨by omega, by omega⟩, rmay_ret _ _ _ (decide_eq_true h).symm, Lib.hid (decide_eq_true h).symm, Lib.hid fun _ => ⟨rfl, rfl⟩⟩
        · exact ⟨_, _, false, of_no _ _ h, rmay_ret _ _ _ (decide_eq_false h).symm, Lib.hid (decide_eq_false h).symm, Lib.hid fun h => by cases h⟩
      obtain ⟨A, B, q, c1, c2, Hq, HAB⟩ := c1
      have htk : l.take (k + 1) = l.take k ++ [(x, y)] := by
        obtain ⟨h1, h2⟩ := List.getElem?_eq_some_iff.1 hp
        rw [List.take_succ_eq_append_getElem h1, h2]
      have HTK := Lib.hid htk
      clear htk
      go_wp2_with fail
      refine c1.calls ?_
      go_wp2_with fail
      refine c2.calls ?_
      cases q
      · go_wp2_with fail
        have HL2 : Hid (L = (l.take (k + 1)).filterMap okP) := Lib.hid (by
          rw [HTK.out, List.filterMap_append, ← HL.out]
          have : okP (x, y) = none := by unfold okP; rw [if_neg (of_decide_eq_false Hq.out.symm)]
          simp [this])
        go_roundw
        case rel => exact ⟨k + 1, by omega, by go_num, L, HL2, rfl, rfl, hL1, hL2, Lib.hid (HO.out.alloc _), Lib.hid (HS.out.alloc _)⟩
        case measure => simp [intOf]; omega
      · obtain ⟨W1, hW1⟩ : ∃ W1, W1 = wr.alloc (.cells #[.int .i64 x, .int .i64 y] 36) := ⟨_, rfl⟩
        rw [← hW1]
        have p0 : W1.cell? ⟨wr.heap.size, 0, none⟩ = some (.int .i64 x) := by rw [hW1]; exact World.cell?_alloc_new _ _ _ _
        have p1 : W1.cell? ⟨wr.heap.size, 1, none⟩ = some (.int .i64 y) := by rw [hW1]; exact World.cell?_alloc_new _ _ _ _
        have hS1 := Lib.hid (show Since w W1 by rw [hW1]; exact HS.out.alloc _)
        have hO1 := Lib.hid (show W1.ownsRow w.heap.size 23 1 u3 L.length (L.map fun p => cx p.1 p.2) by rw [hW1]; exact HO.out.alloc _)
        have hg1 : wr.heap.size < W1.heap.size := by rw [hW1]; simp
        have hne := Lib.hid (own_lt HO.out (Nat.le_refl _))
        have hP := Lib.hid (show W1.cell? ⟨wr.heap.size, 0, none⟩ = some (.int .i64 x) ∧ W1.cell? ⟨wr.heap.size, 1, none⟩ = some (.int .i64 y) from ⟨p0, p1⟩)
        clear p0 p1 hW1 m0 m1 HO HS
        generalize wr.heap.size = g at *
        have hMD : MayD x y := of_decide_eq_true Hq.out.symm
        have hMD2 := hMD
        obtain ⟨m1, m2, m3⟩ := hMD2
        obtain ⟨x, rfl⟩ := Int.eq_ofNat_of_zero_le m1
        obtain ⟨y, rfl⟩ := Int.eq_ofNat_of_zero_le (show 0 ≤ y by omega)
        have hsp : Sp x y := ⟨by omega, by omega⟩
        obtain ⟨rfl, rfl⟩ := HAB.out rfl
        have hL3 : L.length < 30 := by
          have h9 : L.length ≤ k := by rw [HL.out]; exact Nat.le_trans (List.length_filterMap_le _ _) (List.length_take_le _ _)
          omega
        have HL2 : Hid (L ++ [(x, y)] = (l.take (k + 1)).filterMap okP) := Lib.hid (by
          rw [HTK.out, List.filterMap_append, ← HL.out]
          have : okP ((x : Int), (y : Int)) = some (x, y) := by unfold okP; rw [if_pos hMD]; rfl
          simp [this])
        have hT : total (L ++ [(x, y)]) = total L + (y - x) := total_snoc _ _
        have hT2 : total (L ++ [(x, y)]) ≤ 65552 * (L.length + 1) := by
          have h9 := total_le (L ++ [(x, y)]) (fun q hq => (okP_sp' (l.take (k + 1)) q (by rw [← HL2.out]; exact hq)).2)
          rw [List.length_append] at h9
          exact h9
        obtain ⟨T, hTT⟩ : ∃ T, T = total L := ⟨_, rfl⟩
        obtain ⟨U, hUU⟩ : ∃ U, U = total (L ++ [(x, y)]) := ⟨_, rfl⟩
        rw [← hTT] at hT hL2 ⊢
        rw [← hUU] at hT hT2
        have HUU := Lib.hid hUU
        clear hUU
        have HTT := Lib.hid hTT
        clear hTT
        obtain ⟨A, hA⟩ : ∃ A, A = fl (x : Int) := ⟨_, rfl⟩
        obtain ⟨B, hB⟩ : ∃ B, B = fl (y : Int) := ⟨_, rfl⟩
        rw [← hA, ← hB] at c1 ⊢
        have HA := Lib.hid hA
        clear hA
        have HB := Lib.hid hB
        clear hB
        clear hMD Hq HAB HTK HL
        go_wp2_with (at_builtin; refine app_one_k elemC rfl _ _ (by rfl) w W1 _ L.length _ (by rfl) hO1.out hS1.out _ (by rfl) rfl (by omega) (by decide) ?_)
        intro v2 W2 ho2 hs2 hk2
        have n0 : W2.cell? ⟨g, 0, none⟩ = some (.int .i64 (x : Int)) := (hk2.cell (p := ⟨g, 0, none⟩) hg1 hne.out).trans hP.out.1
        have n1 : W2.cell? ⟨g, 1, none⟩ = some (.int .i64 (y : Int)) := (hk2.cell (p := ⟨g, 1, none⟩) hg1 hne.out).trans hP.out.2
        have hg2 : g < W2.heap.size := by have := hk2.size; omega
        have hO2 := Lib.hid ho2
        have hS2 := Lib.hid hs2
        clear ho2 hs2 hk2
        have hy9 : y ≤ 65552 := hsp.2
        have hx9 : x ≤ y := hsp.1
        go_wp2_with fail
        go_loopw [48] (fun i wi => ∃ j : Nat, j ≤ n ∧ i = .int .i64 (j : Int) ∧ Hid (Since W2 wi)) (fun i _ => n - (intOf i).toNat)
        case atStart => exact ⟨0, by omega, rfl, Lib.hid (Since.refl _)⟩
        case round =>
          obtain ⟨j, hj, rfl, HI⟩ := hrel
          by_cases hlj : j < n
          · obtain ⟨⟨z, u⟩, hq⟩ : ∃ p, l[j]? = some p := ⟨l[j]'(by rw [← HN.out]; exact hlj), List.getElem?_eq_getElem _⟩
            have hr := range_below (HR.out j _ hq) (hS2.out.step HI.out) hb
            have m0 : wr.cell? ⟨b, o + j * 2, none⟩ = some (.int .i64 z) := hr 0 _ rfl
            have m1 : wr.cell? ⟨b, o + j * 2 + 1, none⟩ = some (.int .i64 u) := hr 1 _ rfl
            have m2 : wr.cell? ⟨g, 0, none⟩ = some (.int .i64 (x : Int)) := (HI.out.cell (p := ⟨g, 0, none⟩) hg2).trans n0
            have m3 : wr.cell? ⟨g, 1, none⟩ = some (.int .i64 (y : Int)) := (HI.out.cell (p := ⟨g, 1, none⟩) hg2).trans n1
            obtain ⟨C, D, q, p, r, c3, c4, H5⟩ := second x y hsp z u
            rw [← HA.out, ← HB.out] at H5
            have hgw : g < wr.heap.size := Nat.lt_of_lt_of_le hg2 (Below.size HI.out)
            clear hr hq
            go_wp2_with fail
            refine c3.calls ?_
            go_wp2_with fail
            cases q
            · clear H5
              go_quiet ((go_at_call 11; with_reducible exact Calls.quiet_of_same (retStill c4 _)))
              go_wp2_with fail
              go_roundw
              case rel => exact ⟨j + 1, by omega, by go_num, Lib.hid ((HI.out.alloc _).step (belowN _ nq))⟩
              case measure => simp [intOf]; omega
            · obtain ⟨c5, c6, c7, c8⟩ := H5.out rfl
              clear H5
              go_quiet (first
                | (go_at_call 11; with_reducible exact Calls.quiet_of_same (retStill c4 _))
                | (go_at_call 19; with_reducible exact Calls.quiet_of_same (retStill c5 _))
                | (go_at_call 20; with_reducible exact Calls.quiet_of_same (retStill c6 _))
                | (go_at_call 21; with_reducible exact Calls.quiet_of_same (retStill c7 _))
                | (go_at_call 22; with_reducible exact Calls.quiet_of_same (retStill c8 _)))
              go_wp2_with fail
              go_roundw
              case rel => exact ⟨j + 1, by omega, by go_num, Lib.hid ((HI.out.alloc _).step (belowN _ nq))⟩
              case measure => simp [intOf]; omega
          · obtain rfl : j = n := by omega
            have hlen : (L ++ [(x, y)]).length = L.length + 1 := by rw [List.length_append]; rfl
            have hmap : (L ++ [(x, y)]).map (fun p => cx p.1 p.2) = L.map (fun p => cx p.1 p.2) ++ [.complex .f64 A B] := by
              rw [List.map_append, HA.out, HB.out]; rfl
            have hO3 := Lib.hid (show wr.ownsRow w.heap.size 23 1 v2 (L ++ [(x, y)]).length ((L ++ [(x, y)]).map fun p => cx p.1 p.2) by
              rw [hlen, hmap]
              exact own_since hO2.out HI.out)
            have hsum : (T : Int) + (y : Int) - (x : Int) = (U : Int) := by omega
            clear hmap
            go_wp2_with fail
            go_roundw
            case rel => exact ⟨k + 1, by omega, by go_num, L ++ [(x, y)], HL2, by rw [hlen]; go_num, by rw [← HUU.out]; go_num, by omega, by rw [← HUU.out]; omega, hO3, Lib.hid (hS2.out.step HI.out)⟩
            case measure => simp [intOf]; omega
    · obtain rfl : k = n := by omega
      have hsp : ∀ p ∈ L, Sp p.1 p.2 := by rw [HL.out]; exact fun q hq => okP_sp' _ q hq
      have c1 := Lib.hid (count_any wr u3 L (SlR.own HO.out) hsp (by omega) _ _ rfl rfl)
      have v1 := conv_if (L.length : Int)
      have v2 := conv_if (total L : Int)
      have o1 : (FloatKind.f64.format.order (fl (L.length : Int)) (fl (L.length : Int)) == some .eq) = true := by rw [ord_at _ _ (by omega) (by omega), decide_eq_true rfl]
      have o2 : (FloatKind.f64.format.order (fl (total L : Int)) (fl (total L : Int)) == some .eq) = true := by rw [ord_at _ _ (by omega) (by omega), decide_eq_true rfl]
      generalize fl (L.length : Int) = X at c1 v1 o1
      generalize fl (total L : Int) = Y at c1 v2 o2
      clear hsp HL HO
      go_wp2_with fail
      refine c1.out.mono ?_
      rintro e w2 ⟨rfl, rfl⟩
      go_wp2_with fail
      repeat (first
        | (with_reducible refine awake_mak.calls HS.out ?_; intro wz hz; replace HS := Lib.hid hz; clear hz; try go_wp2_with fail))
      go_ret
      exact ⟨rfl, HS.out⟩
set_option maxRecDepth 100000 in
set_option maxHeartbeats 4000000 in
theorem core_nil (w : World) (A : Option Addr) (c : Nat) : Calls Try.prog 4 #[.slice A 0 c] w fun x w' => x = .returned (.bool true) ∧ Since w w' := by
  have HS := Lib.hid (Since.refl w)
  have c1 := Lib.hid (count_any w (.slice none 0 0) [] (SlR.nil w 1) (by simp) (by decide) 0 0 fl0.symm fl0.symm)
  have v1 := conv_if 0
  rw [fl0] at v1
  have o1 : (FloatKind.f64.format.order 0 0 == some .eq) = true := by decide +kernel
  go_enter Try.func4, Try.ntmps4
  go_wp2_with fail
  go_loopw [3, 4, 5, 18] (fun s m t i wr => i = .int .i64 0 ∧ s = .slice none 0 0 ∧ m = .int .i64 0 ∧ t = .int .i64 0 ∧ wr = w) (fun _ _ _ _ _ => 0)
  case atStart => exact ⟨rfl, rfl, rfl, rfl, rfl⟩
  case round =>
    obtain ⟨rfl, rfl, rfl, rfl, rfl⟩ := hrel
    go_wp2_with fail
    refine c1.out.mono ?_
    rintro e w2 ⟨rfl, rfl⟩
    go_wp2_with fail
    repeat (first
      | (with_reducible refine awake_mak.calls HS.out ?_; intro wz hz; replace HS := Lib.hid hz; clear hz; try go_wp2_with fail))
    go_ret
    exact ⟨rfl, HS.out⟩
set_option maxRecDepth 100000 in
set_option maxHeartbeats 4000000 in
theorem core_big (w : World) (A : Option Addr) (n c : Nat) (h : 30 < n) (hn : n ≤ 9223372036854775807) : Calls Try.prog 4 #[.slice A n c] w fun x w' => x = .returned (.bool true) ∧ Since w w' := by
  have HS := Lib.hid (Since.refl w)
  have t1 : decide ((30 : Int) < (n : Int)) = true := decide_eq_true (by omega)
  go_enter Try.func4, Try.ntmps4
  go_wp2_with fail
  repeat (first
    | (with_reducible refine awake_mak.calls HS.out ?_; intro wz hz; replace HS := Lib.hid hz; clear hz; try go_wp2_with fail))
  go_ret
  exact ⟨rfl, HS.out⟩
set_option maxRecDepth 100000 in
theorem walk (w : World) (A : Option Addr) (n c : Nat) (l : List (Int × Int)) (h : PairsS w (.slice A n c) l) (hn : n = l.length) (_hw : ∀ p ∈ l, (Lit.int .i64 p.1).wf = true ∧ (Lit.int .i64 p.2).wf = true) :
    Calls Try.prog 4 #[.slice A n c] w fun e w' => e = .returned (.bool true) ∧ Below w.heap.size w w' := by
  have h9 : n ≤ 9223372036854775807 := by rw [hn]; exact SlR.le h
  by_cases h0 : n = 0
  · subst h0
    exact core_nil w A c
  · by_cases hb : 30 < n
    · exact core_big w A n c hb h9
    · have h' : SlR w 2 (.slice A n c) n (l.flatMap pf) := by rw [hn] at h ⊢; exact h
      obtain ⟨b, o, c', hv, hc1, hc2, hlt, _⟩ := SlR.form h' (by omega)
      obtain ⟨rfl, _, rfl⟩ := Value.slice.inj hv
      exact core w b o n c l h' hlt hn hc1 (by omega) (by omega)

set_option maxRecDepth 100000 in
theorem own : ownKnob Try.prog.godebug = none := by kernel_rfl
set_option maxRecDepth 100000 in
theorem laidOut : laidOutB Try.prog = true := by kernel_rfl

set_option maxRecDepth 100000 in
theorem lifted (os : Os) (started : os.Started) (H : Type) (enc : TypeId × Value → H) :
    ReturnsInHanded {} Try.checked os 4 .any (Rows.spanPairsSpec.pre6 enc Try.prog Try.f4 Rows.spanPairsRow.domain false) (Rows.spanPairsSpec.post enc Try.prog Try.f4 false true false false) := by
  refine returnsInHanded_of_change (C := Try.checked) own started (by kernel_rfl) Try.func4
    (ChangeSpec.witness6 (enc := enc) (C := Try.checked) false ⟨#[], #[.slice none 0 0], []⟩ 8 (by kernel_rfl) (by kernel_rfl) (by kernel_rfl) (by kernel_rfl)) ?_
  intro W base args ds gs before hval0 hW hcnd _
  have hval : ∀ (j : Nat) t v, Try.f4.params[j]? = some t → args[j]? = some v → Value.okWide Try.prog W .any base t v := hval0
  have hW' := hW
  obtain ⟨p, q, hA0, hV, rfl, hfz, hnd⟩ := hW
  have hA : DataW.TrodAll enc Try.prog W 0 (fun _ => true) true Try.f4.params.toList args.toList ds p := hA0
  rw [Try.params4] at hA hval
  obtain ⟨v0, vs0, d0, ds0, p0, q0, hargs, rfl, rfl, h0, r0⟩ := trodAll_cons hA
  obtain ⟨rfl, rfl, rfl⟩ := trodAll_nil r0
  obtain rfl : args = #[v0] := by cases args; simp_all
  obtain ⟨rfl, rfl⟩ := trodVars_none hV
  obtain ⟨a0, n0, c0, rfl⟩ := okWide_slice Try.underlying34 (hval 0 34 v0 rfl rfl)
  have h0k := h0
  obtain ⟨fuel0, hf0⟩ := h0
  have hlt0 : ∀ x ∈ p0, x.block < W.heap.size := fun x hx => by simpa using hW'.lt x (by simp [hx])
  obtain ⟨x0, lA0, lN0, lX0⟩ := pairs_arg hf0 hlt0
  clear hA0 hval0
  simp only [List.append_nil] at hW'
  refine (walk W a0 n0 c0 x0 lA0 lN0 lX0).mono fun e W' ⟨he, hg⟩ => ?_
  subst he
  exact ⟨_, rfl, _, _, _, _, _, [], hW', (trodAll_cons_mk (shut_bool Try.underlying4 _) trodAll_mk0), (trodAll_cons_mk (Below.trod laidOut (by kernel_rfl) (of_decide_eq_true (by kernel_rfl)) h0k hg hlt0) trodAll_mk0), rfl, hg.frame _, fun h => by cases h⟩

set_option maxRecDepth 100000 in
theorem over : Rows.spanPairsRow.holds Try.pinned (OpenSpec.ofChange Rows.spanPairsSpec) :=
  OpenClaim.holds_of_wide 4 Try.f4 rfl rfl rfl rfl rfl rfl rfl ⟨rfl, rfl, rfl, rfl, rfl⟩ rfl rfl rfl rfl rfl (by kernel_rfl) Try.func4 (by kernel_rfl)
    (of_decide_eq_true (by kernel_rfl)) (by unfold Func.isWrapper; first | (rw [if_pos (by decide +kernel)]; kernel_rfl) | (rw [if_neg (by decide +kernel)]; exact ⟨rfl, rfl⟩))
    (fun os started H enc _ => lifted os started H enc)

theorem proved : Rows.SpanPairsSaid :=
  over

end Go.Proofs.Ytlmnidpcdibnkaa.spanPairs
