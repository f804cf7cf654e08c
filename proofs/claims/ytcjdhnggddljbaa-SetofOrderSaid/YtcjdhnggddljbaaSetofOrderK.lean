/- The law SetofOrder: of two unlike texts just one is less, and what is sorted stays so; no conditions. -/
import Derived.Test.YtcjdhnggddljbaaRows
import Derived.WalkKit
import Derived.ProofKit
import Derived.OpenShut
import Derived.Lib.Hide
import Derived.Test.YtcjdhnggddljbaaSf14
namespace Go.Proofs.Ytcjdhnggddljbaa.setofOrder
open Go.ChangeShapes Go.WideShapes Go.ChangeAt Go.RowKit
open Setof Plain

/-- does one of the first k+1 stand twice, one behind the other -/
def adjN (l : List ByteArray) : Nat → Bool
  | 0 => false
  | k+1 => adjN l k || (match l[k]?, l[k+1]? with | some a, some b => decide (b = a) | _, _ => false)
theorem adjN_step (l : List ByteArray) (k : Nat) (a b : ByteArray) (h1 : l[k]? = some a) (h2 : l[k+1]? = some b) : adjN l (k + 1) = (adjN l k || decide (b = a)) := by
  show (adjN l k || (match l[k]?, l[k+1]? with | some a, some b => decide (b = a) | _, _ => false)) = _
  rw [h1, h2]
theorem ri_adj (l : List ByteArray) (hu : (l.map dl).Pairwise up) (k : Nat) (hk : k + 1 ≤ l.length) : riN l (k + 1) = !adjN l k := by
  induction k with
  | zero => rfl
  | succ k ih =>
    obtain ⟨a, ha⟩ : ∃ a, l[k]? = some a := ⟨l[k]'(by omega), List.getElem?_eq_getElem _⟩
    obtain ⟨b, hb⟩ : ∃ b, l[k+1]? = some b := ⟨l[k+1]'(by omega), List.getElem?_eq_getElem _⟩
    rw [riN_step l k a b ha hb, adjN_step l k a b ha hb, ih (by omega), Bool.not_or]
    congr 1
    have h9 : up (dl a) (dl b) := by
      obtain ⟨h1, e1⟩ := List.getElem?_eq_some_iff.1 ha
      obtain ⟨h2, e2⟩ := List.getElem?_eq_some_iff.1 hb
      have := List.pairwise_iff_getElem.1 hu k (k + 1) (by simpa using h1) (by simpa using h2) (by omega)
      simpa [e1, e2] using this
    by_cases e : b = a
    · subst e
      rw [decide_eq_true rfl]
      exact ltB_irrefl _
    · rw [decide_eq_false e]
      show ltB (dl a) (dl b) = true
      cases h : ltB (dl a) (dl b) with
      | true => rfl
      | false =>
        have := ltB_tri (dl a) (dl b) h h9
        exact absurd (by rw [← bs_list a, ← bs_list b]; unfold dl at this; rw [this]) e
theorem rises_adj (l : List ByteArray) : risesB (srtB l) = !adjN (srtB l) ((srtB l).length - 1) := by
  by_cases h : (srtB l).length = 0
  · rw [List.length_eq_zero_iff.1 h]; rfl
  · have := ri_adj (srtB l) (srtB_up l) ((srtB l).length - 1) (by omega)
    rw [show (srtB l).length - 1 + 1 = (srtB l).length by omega] at this
    exact this
theorem srtB_srtB (l : List ByteArray) : srtB (srtB l) = srtB l := (srtB_of (srtB l) (srtB l) (List.Perm.refl _) (srtB_up l)).symm
theorem own_base {w w0 W : World} {v : Value} {l : List ByteArray} (h : OwnS w W v l) (hb : w0.heap.size ≤ w.heap.size) : OwnS w0 W v l := by
  obtain ⟨h1, h2⟩ := h
  refine ⟨h1, ?_⟩
  rcases h2 with h2 | ⟨g, cap, cur, rfl, hb2, r⟩
  · exact Or.inl h2
  · exact Or.inr ⟨g, cap, cur, rfl, Nat.le_trans hb hb2, r⟩
theorem own_kept {w0 W W' : World} {v : Value} {l : List ByteArray} {g : Nat} (h : OwnS w0 W v l) (hk : Kept W W' g) (hne : v.ownBlock ≠ some g) : OwnS w0 W' v l := by
  obtain ⟨h1, h2⟩ := h
  refine ⟨h1, ?_⟩
  rcases h2 with h2 | ⟨g2, cap, cur, rfl, hb, hg, r⟩
  · exact Or.inl h2
  · exact Or.inr ⟨g2, cap, cur, rfl, hb, (hk.block g2 (Array.getElem?_eq_some_iff.1 hg).1 (fun e => hne (by rw [e]; rfl))).trans hg, r⟩
theorem strs_kept {W W' : World} {v : Value} {l : List ByteArray} {g : Nat} (h : StrsS W v l) (hk : Kept W W' g) (hne : v.ownBlock ≠ some g) : StrsS W' v l := by
  obtain ⟨h1, A, c, rfl, h2, h3, h4⟩ := h
  refine ⟨h1, A, c, rfl, h2, h3, ?_⟩
  rcases h4 with h4 | ⟨b, o, rfl, hlt, hc⟩
  · exact Or.inl h4
  · refine Or.inr ⟨b, o, rfl, Nat.lt_of_lt_of_le hlt hk.size, fun i u hu => ?_⟩
    have := hc i u hu
    unfold World.cell? at this ⊢
    rw [hk.block b hlt (fun e => hne (by rw [e]; rfl))]
    exact this
set_option maxRecDepth 100000 in
/-- what stands while both copies are sorted -/
theorem sort_x (wA wB wC : World) (x y s : Value) (l M : List ByteArray) (hx : OwnS wA wB x M) (hb : Since wA wB) (hy : OwnS wB wC y l) (hc : Since wB wC) (hs : StrsS wA s M) (hl : M.length ≤ 1000000) :
    Calls Try.prog 17 #[x] wC fun e wD => e = .returned (.tuple #[]) ∧ StrsS wD x (srtB M) ∧ OwnS wA wD y l ∧ StrsS wD s M ∧ Since wA wD ∧ Apart x y ∧ wB.heap.size ≤ wD.heap.size := by
  have hac := Since.step hb hc
  have hap : Apart x y := fun g h1 h2 => by
    have := (World.ownsRow.lt hx g h1).2
    have := (World.ownsRow.lt hy g h2).1
    omega
  refine (sorts wA wC x M (hx.since hc) hac hl).mono ?_
  rintro e wD ⟨rfl, h1, h2, g, hk, hg⟩
  refine ⟨rfl, h1, own_kept (own_base hy (Below.size hb)) hk ?_, hs.since h2, h2, hap, Nat.le_trans (Below.size hc) hk.size⟩
  rcases hg with hg | hg
  · exact hap g hg
  · intro e
    have := (World.ownsRow.lt hy g e).2
    omega
set_option maxRecDepth 100000 in
theorem sort_y (wA wD : World) (x y s : Value) (l M N : List ByteArray) (hx : StrsS wD x N) (hxl : ∀ g, x.ownBlock = some g → g < wD.heap.size) (hy : OwnS wA wD y l) (hd : Since wA wD) (hs : StrsS wA s M) (hap : Apart x y) (hl : l.length ≤ 1000000) :
    Calls Try.prog 17 #[y] wD fun e wE => e = .returned (.tuple #[]) ∧ StrsS wE x N ∧ StrsS wE y (srtB l) ∧ StrsS wE s M ∧ Since wA wE := by
  refine (sorts wA wD y l hy hd hl).mono ?_
  rintro e wE ⟨rfl, h1, h2, g, hk, hg⟩
  refine ⟨rfl, strs_kept hx hk ?_, h1, hs.since h2, h2⟩
  rcases hg with hg | hg
  · exact fun e => hap g e hg
  · intro e
    have := hxl g e
    omega
set_option maxRecDepth 100000 in
set_option maxHeartbeats 8000000 in
theorem core1 (w : World) (a b c : ByteArray) (X : Value) (l M : List ByteArray) (hx : StrsS w X l) (l1 : a.size ≤ 200) (l2 : b.size ≤ 200) (l3 : c.size ≤ 200) (r : Bool) (cS : RdSh l 30 100 true)
    (hab : (a.toList == b.toList) = true) (c1 : Ret 9 #[.string a, .string b] (.bool false)) (c2 : Ret 9 #[.string b, .string a] (.bool false)) (c3 : Ret 9 #[.string a, .string a] (.bool false)) (hL : l.length ≤ 1000000) (hM : M.length ≤ 1000000) (hLM : srtB l = M) (hMM : srtB M = M) (hR : r = !adjN M (M.length - 1)) (c5 : MkSS 12 l M) (c6 : MkSS 12 M M) (c7 : RdS 14 M (fun x => #[x]) (.bool r)) :
    Calls Try.prog 4 #[.string a, .string b, .string c, X] w fun x w' => x = .returned (.bool true) ∧ Since w w' := by
  have HS := Lib.hid (Since.refl w)
  have HX := Lib.hid hx
  have t1 : decide ((200 : Int) < (a.size : Int)) = false := decide_eq_false (by omega)
  have t2 : decide ((200 : Int) < (b.size : Int)) = false := decide_eq_false (by omega)
  have t3 : decide ((200 : Int) < (c.size : Int)) = false := decide_eq_false (by omega)
  have cA := awake_mak
  have HL := Lib.hid hL
  have HM := Lib.hid hM
  have HLM := Lib.hid hLM
  have HMM := Lib.hid hMM
  have HR := Lib.hid hR
  clear hx hL hM hLM hMM hR l1 l2 l3
  go_enter Try.func4, Try.ntmps4
  go_wp2_with fail
  refine cS.calls HX.out ?_
  go_wp2_with fail
  refine (c1.calls) ?_
  go_wp2_with fail
  refine (c2.calls) ?_
  go_wp2_with fail
  refine (c3.calls) ?_
  go_wp2_with fail
  refine (c1.calls) ?_
  go_wp2_with fail
  refine c5.calls0 HX.out ?_
  intro s wA hs hA
  replace HX := Lib.hid (HX.out.since hA)
  replace HS := Lib.hid (HS.out.step hA)
  have HVs := Lib.hid hs
  clear hs hA
  go_wp2_with fail
  refine (clones wA s M HVs.out HM.out).mono ?_
  rintro e wB ⟨x, rfl, hx, hB⟩
  have HXX := Lib.hid hx
  have HB := Lib.hid hB
  replace HX := Lib.hid (HX.out.since hB)
  clear hx hB
  go_wp2_with fail
  refine (clones wB _ l HX.out HL.out).mono ?_
  rintro e wC ⟨y, rfl, hy, hC⟩
  have hx2 := World.ownsRow.lt HXX.out
  have h3 := Lib.hid (sort_x wA wB wC x y s l M HXX.out HB.out hy hC HVs.out HM.out)
  have HXL : Hid (∀ g, x.ownBlock = some g → g < wB.heap.size) := Lib.hid (fun g h => (hx2 g h).2)
  have HC := Lib.hid hC
  clear hy hC hx2 HXX
  go_wp2_with fail
  refine h3.out.mono ?_
  rintro e wD ⟨rfl, hx, hy, hs, hD, hap, hbd⟩
  have h4 := Lib.hid (sort_y wA wD x y s l M (srtB M) hx (fun g h => Nat.lt_of_lt_of_le (HXL.out g h) hbd) hy hD HVs.out hap HL.out)
  clear hx hy hs hD hap h3 hbd HXL HC HB
  go_wp2_with fail
  refine h4.out.mono ?_
  rintro e wE ⟨rfl, hx, hy, hs, hE⟩
  rw [HMM.out] at hx
  rw [HLM.out] at hy
  have HXX := Lib.hid hx
  have HYY := Lib.hid hy
  replace HVs := Lib.hid hs
  replace HS := Lib.hid (HS.out.step hE)
  clear hx hy hs hE h4 HX
  go_wp2_with fail
  refine (equals_same _ _ _ _ HXX.out HYY.out).mono ?_
  rintro e w7 ⟨rfl, h7⟩
  replace HXX := Lib.hid (HXX.out.since h7)
  replace HVs := Lib.hid (HVs.out.since h7)
  replace HS := Lib.hid (HS.out.step h7)
  clear h7 HYY
  go_wp2_with fail
  refine c6.calls0 HVs.out ?_
  intro s2 w8 hs2 h8
  replace HXX := Lib.hid (HXX.out.since h8)
  replace HVs := Lib.hid (HVs.out.since h8)
  replace HS := Lib.hid (HS.out.step h8)
  have HS2 := Lib.hid hs2
  clear hs2 h8
  go_wp2_with fail
  refine (equals_same _ _ _ _ HS2.out HVs.out).mono ?_
  rintro e w9 ⟨rfl, h9⟩
  replace HXX := Lib.hid (HXX.out.since h9)
  replace HVs := Lib.hid (HVs.out.since h9)
  replace HS := Lib.hid (HS.out.step h9)
  clear h9 HS2
  obtain ⟨N, hN⟩ : ∃ N, N = M.length := ⟨_, rfl⟩
  by_cases hN0 : N = 0
  · obtain ⟨A9, d9, rfl, _⟩ := SlR.empty HXX.out (by rw [← hN]; exact hN0)
    have HR0 := Lib.hid (HR.out.trans (by rw [← hN, hN0]; rfl : (!adjN M (M.length - 1)) = true))
    clear HXX hN hN0
    go_wp2_with fail
    go_loop [12, 13] (fun t i => t = .bool false ∧ i = .int .i64 1) (fun _ i => 1 - (intOf i).toNat)
    case atStart => exact ⟨rfl, rfl⟩
    case round =>
      obtain ⟨rfl, rfl⟩ := hrel
      obtain rfl := HR0.out
      go_wp2_with fail
      refine (c7.calls0 HVs.out) ?_
      intro w10 h10
      replace HS := Lib.hid (HS.out.step (by first | exact h10 | exact (Since.alloc (Since.refl _) _).step h10 | exact (Since.alloc (Since.alloc (Since.refl _) _) _).step h10 | exact (Since.drew (Since.refl _)).step h10 | exact (Since.alloc (Since.alloc (Since.alloc (Since.refl _) _) _) _).step h10))
      clear h10
      go_wp2_with fail
      refine (cA.calls0) ?_
      intro w11 h11
      replace HS := Lib.hid (HS.out.step (by first | exact h11 | exact (Since.alloc (Since.refl _) _).step h11 | exact (Since.alloc (Since.alloc (Since.refl _) _) _).step h11 | exact (Since.drew (Since.refl _)).step h11 | exact (Since.alloc (Since.alloc (Since.alloc (Since.refl _) _) _) _).step h11))
      clear h11
      go_wp2_with fail
      go_ret
      exact ⟨rfl, HS.out⟩
  · obtain ⟨bb, o, cc, rfl, g1, g2, g3, g4⟩ := strs_cells HXX.out (by omega)
    rw [← hN] at g1
    have HCL := Lib.hid g4
    have HN := Lib.hid hN
    have hmx : N ≤ 9223372036854775807 := by unfold maxLen at g2; omega
    have HW9 := Lib.hid (Since.refl w9)
    rw [← hN]
    clear HXX hN g4
    go_wp2_with fail
    go_loopw [12, 13] (fun t i wr => ∃ (k : Nat) (T : Bool), k + 1 ≤ N ∧ t = .bool T ∧ i = .int .i64 ((k : Int) + 1) ∧ Hid (T = adjN M k) ∧ Hid (Since w9 wr)) (fun _ i _ => N - (intOf i).toNat)
    case atStart => exact ⟨0, false, by omega, rfl, rfl, Lib.hid rfl, HW9⟩
    case round =>
      obtain ⟨k, T, hk, rfl, rfl, HA, HSI⟩ := hrel
      by_cases hlt : k + 1 < N
      · obtain ⟨p, hp⟩ : ∃ p, M[k]? = some p := ⟨M[k]'(by rw [← HN.out]; omega), List.getElem?_eq_getElem _⟩
        obtain ⟨q, hq⟩ : ∃ q, M[k+1]? = some q := ⟨M[k+1]'(by rw [← HN.out]; omega), List.getElem?_eq_getElem _⟩
        have m0 := (Below.cell HSI.out (p := ⟨bb, o + k, none⟩) g3).trans (HCL.out k p hp)
        have m1 := (Below.cell HSI.out (p := ⟨bb, o + (k + 1), none⟩) g3).trans (HCL.out (k + 1) q hq)
        have hst := adjN_step M k p q hp hq
        have i1 : (0 : Int) ≤ (k : Int) := by omega
        have i2 : (k : Int) < (N : Int) := by omega
        have i3 : (0 : Int) ≤ (k : Int) + 1 := by omega
        have i4 : (k : Int) + 1 < (N : Int) := by omega
        have e1 : IntKind.i64.wrap ((k : Int) + 1 - 1) = (k : Int) := by rw [IntWalk.i64_in _ (by omega)]; omega
        have e2 : ((k : Int) + 1).toNat = k + 1 := by omega
        have hE : (q.toList == p.toList) = decide (q = p) := by
          by_cases e : q = p
          · rw [str_eq_t e, decide_eq_true e]
          · rw [str_ne_f e, decide_eq_false e]
        rw [← HA.out] at hst
        clear hp hq
        cases hd : decide (q = p) with
        | true =>
          rw [hd] at hE hst
          cases T
          all_goals
            have HA2 := Lib.hid hst.symm
            clear hst hd
            go_wp2_with fail
            go_quiet (fail)
            go_wp2_with fail
            go_roundw
            case rel => exact ⟨k + 1, _, by omega, rfl, by go_num, HA2, Lib.hid (HSI.out.step (belowN _ _))⟩
            case measure => simp [intOf]; omega
        | false =>
          rw [hd] at hE hst
          cases T
          all_goals
            have HA2 := Lib.hid hst.symm
            clear hst hd
            go_wp2_with fail
            go_quiet (fail)
            go_wp2_with fail
            go_roundw
            case rel => exact ⟨k + 1, _, by omega, rfl, by go_num, HA2, Lib.hid (HSI.out.step (belowN _ _))⟩
            case measure => simp [intOf]; omega
      · have hT : T = adjN M (M.length - 1) := by rw [HA.out, ← HN.out, show k = N - 1 by omega]
        have hrt : r = !T := by rw [hT]; exact HR.out
        clear hT
        subst hrt
        replace HVs := Lib.hid (HVs.out.since HSI.out)
        replace HS := Lib.hid (HS.out.step HSI.out)
        clear HA HSI
        cases T
        all_goals
          go_wp2_with fail
          refine (c7.calls0 HVs.out) ?_
          intro w10 h10
          replace HS := Lib.hid (HS.out.step (by first | exact h10 | exact (Since.alloc (Since.refl _) _).step h10 | exact (Since.alloc (Since.alloc (Since.refl _) _) _).step h10 | exact (Since.drew (Since.refl _)).step h10 | exact (Since.alloc (Since.alloc (Since.alloc (Since.refl _) _) _) _).step h10))
          clear h10
          go_wp2_with fail
          refine (cA.calls0) ?_
          intro w11 h11
          replace HS := Lib.hid (HS.out.step (by first | exact h11 | exact (Since.alloc (Since.refl _) _).step h11 | exact (Since.alloc (Since.alloc (Since.refl _) _) _).step h11 | exact (Since.drew (Since.refl _)).step h11 | exact (Since.alloc (Since.alloc (Since.alloc (Since.refl _) _) _) _).step h11))
          clear h11
          go_wp2_with fail
          go_ret
          exact ⟨rfl, HS.out⟩
set_option maxRecDepth 100000 in
set_option maxHeartbeats 8000000 in
theorem core2 (w : World) (a b c : ByteArray) (X : Value) (l M : List ByteArray) (hx : StrsS w X l) (l1 : a.size ≤ 200) (l2 : b.size ≤ 200) (l3 : c.size ≤ 200) (r : Bool) (cS : RdSh l 30 100 true)
    (c1 : Ret 9 #[.string a, .string b] (.bool false)) (c2 : Ret 9 #[.string b, .string a] (.bool true)) (c3 : Ret 9 #[.string a, .string a] (.bool false)) (hL : l.length ≤ 1000000) (hM : M.length ≤ 1000000) (hLM : srtB l = M) (hMM : srtB M = M) (hR : r = !adjN M (M.length - 1)) (c5 : MkSS 12 l M) (c6 : MkSS 12 M M) (c7 : RdS 14 M (fun x => #[x]) (.bool r)) :
    Calls Try.prog 4 #[.string a, .string b, .string c, X] w fun x w' => x = .returned (.bool true) ∧ Since w w' := by
  have HS := Lib.hid (Since.refl w)
  have HX := Lib.hid hx
  have t1 : decide ((200 : Int) < (a.size : Int)) = false := decide_eq_false (by omega)
  have t2 : decide ((200 : Int) < (b.size : Int)) = false := decide_eq_false (by omega)
  have t3 : decide ((200 : Int) < (c.size : Int)) = false := decide_eq_false (by omega)
  have cA := awake_mak
  have HL := Lib.hid hL
  have HM := Lib.hid hM
  have HLM := Lib.hid hLM
  have HMM := Lib.hid hMM
  have HR := Lib.hid hR
  clear hx hL hM hLM hMM hR l1 l2 l3
  go_enter Try.func4, Try.ntmps4
  go_wp2_with fail
  refine cS.calls HX.out ?_
  go_wp2_with fail
  refine (c1.calls) ?_
  go_wp2_with fail
  refine (c2.calls) ?_
  go_wp2_with fail
  refine (c3.calls) ?_
  go_wp2_with fail
  refine (c1.calls) ?_
  go_wp2_with fail
  refine c5.calls0 HX.out ?_
  intro s wA hs hA
  replace HX := Lib.hid (HX.out.since hA)
  replace HS := Lib.hid (HS.out.step hA)
  have HVs := Lib.hid hs
  clear hs hA
  go_wp2_with fail
  refine (clones wA s M HVs.out HM.out).mono ?_
  rintro e wB ⟨x, rfl, hx, hB⟩
  have HXX := Lib.hid hx
  have HB := Lib.hid hB
  replace HX := Lib.hid (HX.out.since hB)
  clear hx hB
  go_wp2_with fail
  refine (clones wB _ l HX.out HL.out).mono ?_
  rintro e wC ⟨y, rfl, hy, hC⟩
  have hx2 := World.ownsRow.lt HXX.out
  have h3 := Lib.hid (sort_x wA wB wC x y s l M HXX.out HB.out hy hC HVs.out HM.out)
  have HXL : Hid (∀ g, x.ownBlock = some g → g < wB.heap.size) := Lib.hid (fun g h => (hx2 g h).2)
  have HC := Lib.hid hC
  clear hy hC hx2 HXX
  go_wp2_with fail
  refine h3.out.mono ?_
  rintro e wD ⟨rfl, hx, hy, hs, hD, hap, hbd⟩
  have h4 := Lib.hid (sort_y wA wD x y s l M (srtB M) hx (fun g h => Nat.lt_of_lt_of_le (HXL.out g h) hbd) hy hD HVs.out hap HL.out)
  clear hx hy hs hD hap h3 hbd HXL HC HB
  go_wp2_with fail
  refine h4.out.mono ?_
  rintro e wE ⟨rfl, hx, hy, hs, hE⟩
  rw [HMM.out] at hx
  rw [HLM.out] at hy
  have HXX := Lib.hid hx
  have HYY := Lib.hid hy
  replace HVs := Lib.hid hs
  replace HS := Lib.hid (HS.out.step hE)
  clear hx hy hs hE h4 HX
  go_wp2_with fail
  refine (equals_same _ _ _ _ HXX.out HYY.out).mono ?_
  rintro e w7 ⟨rfl, h7⟩
  replace HXX := Lib.hid (HXX.out.since h7)
  replace HVs := Lib.hid (HVs.out.since h7)
  replace HS := Lib.hid (HS.out.step h7)
  clear h7 HYY
  go_wp2_with fail
  refine c6.calls0 HVs.out ?_
  intro s2 w8 hs2 h8
  replace HXX := Lib.hid (HXX.out.since h8)
  replace HVs := Lib.hid (HVs.out.since h8)
  replace HS := Lib.hid (HS.out.step h8)
  have HS2 := Lib.hid hs2
  clear hs2 h8
  go_wp2_with fail
  refine (equals_same _ _ _ _ HS2.out HVs.out).mono ?_
  rintro e w9 ⟨rfl, h9⟩
  replace HXX := Lib.hid (HXX.out.since h9)
  replace HVs := Lib.hid (HVs.out.since h9)
  replace HS := Lib.hid (HS.out.step h9)
  clear h9 HS2
  obtain ⟨N, hN⟩ : ∃ N, N = M.length := ⟨_, rfl⟩
  by_cases hN0 : N = 0
  · obtain ⟨A9, d9, rfl, _⟩ := SlR.empty HXX.out (by rw [← hN]; exact hN0)
    have HR0 := Lib.hid (HR.out.trans (by rw [← hN, hN0]; rfl : (!adjN M (M.length - 1)) = true))
    clear HXX hN hN0
    go_wp2_with fail
    go_loop [12, 13] (fun t i => t = .bool false ∧ i = .int .i64 1) (fun _ i => 1 - (intOf i).toNat)
    case atStart => exact ⟨rfl, rfl⟩
    case round =>
      obtain ⟨rfl, rfl⟩ := hrel
      obtain rfl := HR0.out
      go_wp2_with fail
      refine (c7.calls0 HVs.out) ?_
      intro w10 h10
      replace HS := Lib.hid (HS.out.step (by first | exact h10 | exact (Since.alloc (Since.refl _) _).step h10 | exact (Since.alloc (Since.alloc (Since.refl _) _) _).step h10 | exact (Since.drew (Since.refl _)).step h10 | exact (Since.alloc (Since.alloc (Since.alloc (Since.refl _) _) _) _).step h10))
      clear h10
      go_wp2_with fail
      refine (cA.calls0) ?_
      intro w11 h11
      replace HS := Lib.hid (HS.out.step (by first | exact h11 | exact (Since.alloc (Since.refl _) _).step h11 | exact (Since.alloc (Since.alloc (Since.refl _) _) _).step h11 | exact (Since.drew (Since.refl _)).step h11 | exact (Since.alloc (Since.alloc (Since.alloc (Since.refl _) _) _) _).step h11))
      clear h11
      go_wp2_with fail
      go_ret
      exact ⟨rfl, HS.out⟩
  · obtain ⟨bb, o, cc, rfl, g1, g2, g3, g4⟩ := strs_cells HXX.out (by omega)
    rw [← hN] at g1
    have HCL := Lib.hid g4
    have HN := Lib.hid hN
    have hmx : N ≤ 9223372036854775807 := by unfold maxLen at g2; omega
    have HW9 := Lib.hid (Since.refl w9)
    rw [← hN]
    clear HXX hN g4
    go_wp2_with fail
    go_loopw [12, 13] (fun t i wr => ∃ (k : Nat) (T : Bool), k + 1 ≤ N ∧ t = .bool T ∧ i = .int .i64 ((k : Int) + 1) ∧ Hid (T = adjN M k) ∧ Hid (Since w9 wr)) (fun _ i _ => N - (intOf i).toNat)
    case atStart => exact ⟨0, false, by omega, rfl, rfl, Lib.hid rfl, HW9⟩
    case round =>
      obtain ⟨k, T, hk, rfl, rfl, HA, HSI⟩ := hrel
      by_cases hlt : k + 1 < N
      · obtain ⟨p, hp⟩ : ∃ p, M[k]? = some p := ⟨M[k]'(by rw [← HN.out]; omega), List.getElem?_eq_getElem _⟩
        obtain ⟨q, hq⟩ : ∃ q, M[k+1]? = some q := ⟨M[k+1]'(by rw [← HN.out]; omega), List.getElem?_eq_getElem _⟩
        have m0 := (Below.cell HSI.out (p := ⟨bb, o + k, none⟩) g3).trans (HCL.out k p hp)
        have m1 := (Below.cell HSI.out (p := ⟨bb, o + (k + 1), none⟩) g3).trans (HCL.out (k + 1) q hq)
        have hst := adjN_step M k p q hp hq
        have i1 : (0 : Int) ≤ (k : Int) := by omega
        have i2 : (k : Int) < (N : Int) := by omega
        have i3 : (0 : Int) ≤ (k : Int) + 1 := by omega
        have i4 : (k : Int) + 1 < (N : Int) := by omega
        have e1 : IntKind.i64.wrap ((k : Int) + 1 - 1) = (k : Int) := by rw [IntWalk.i64_in _ (by omega)]; omega
        have e2 : ((k : Int) + 1).toNat = k + 1 := by omega
        have hE : (q.toList == p.toList) = decide (q = p) := by
          by_cases e : q = p
          · rw [str_eq_t e, decide_eq_true e]
          · rw [str_ne_f e, decide_eq_false e]
        rw [← HA.out] at hst
        clear hp hq
        cases hd : decide (q = p) with
        | true =>
          rw [hd] at hE hst
          cases T
          all_goals
            have HA2 := Lib.hid hst.symm
            clear hst hd
            go_wp2_with fail
            go_quiet (fail)
            go_wp2_with fail
            go_roundw
            case rel => exact ⟨k + 1, _, by omega, rfl, by go_num, HA2, Lib.hid (HSI.out.step (belowN _ _))⟩
            case measure => simp [intOf]; omega
        | false =>
          rw [hd] at hE hst
          cases T
          all_goals
            have HA2 := Lib.hid hst.symm
            clear hst hd
            go_wp2_with fail
            go_quiet (fail)
            go_wp2_with fail
            go_roundw
            case rel => exact ⟨k + 1, _, by omega, rfl, by go_num, HA2, Lib.hid (HSI.out.step (belowN _ _))⟩
            case measure => simp [intOf]; omega
      · have hT : T = adjN M (M.length - 1) := by rw [HA.out, ← HN.out, show k = N - 1 by omega]
        have hrt : r = !T := by rw [hT]; exact HR.out
        clear hT
        subst hrt
        replace HVs := Lib.hid (HVs.out.since HSI.out)
        replace HS := Lib.hid (HS.out.step HSI.out)
        clear HA HSI
        cases T
        all_goals
          go_wp2_with fail
          refine (c7.calls0 HVs.out) ?_
          intro w10 h10
          replace HS := Lib.hid (HS.out.step (by first | exact h10 | exact (Since.alloc (Since.refl _) _).step h10 | exact (Since.alloc (Since.alloc (Since.refl _) _) _).step h10 | exact (Since.drew (Since.refl _)).step h10 | exact (Since.alloc (Since.alloc (Since.alloc (Since.refl _) _) _) _).step h10))
          clear h10
          go_wp2_with fail
          refine (cA.calls0) ?_
          intro w11 h11
          replace HS := Lib.hid (HS.out.step (by first | exact h11 | exact (Since.alloc (Since.refl _) _).step h11 | exact (Since.alloc (Since.alloc (Since.refl _) _) _).step h11 | exact (Since.drew (Since.refl _)).step h11 | exact (Since.alloc (Since.alloc (Since.alloc (Since.refl _) _) _) _).step h11))
          clear h11
          go_wp2_with fail
          go_ret
          exact ⟨rfl, HS.out⟩
set_option maxRecDepth 100000 in
set_option maxHeartbeats 8000000 in
theorem core3 (w : World) (a b c : ByteArray) (X : Value) (l M : List ByteArray) (hx : StrsS w X l) (l1 : a.size ≤ 200) (l2 : b.size ≤ 200) (l3 : c.size ≤ 200) (r : Bool) (cS : RdSh l 30 100 true)
    (c1 : Ret 9 #[.string a, .string b] (.bool true)) (c2 : Ret 9 #[.string b, .string a] (.bool false)) (c3 : Ret 9 #[.string a, .string a] (.bool false)) (c4 : Ret 9 #[.string b, .string c] (.bool false)) (hL : l.length ≤ 1000000) (hM : M.length ≤ 1000000) (hLM : srtB l = M) (hMM : srtB M = M) (hR : r = !adjN M (M.length - 1)) (c5 : MkSS 12 l M) (c6 : MkSS 12 M M) (c7 : RdS 14 M (fun x => #[x]) (.bool r)) :
    Calls Try.prog 4 #[.string a, .string b, .string c, X] w fun x w' => x = .returned (.bool true) ∧ Since w w' := by
  have HS := Lib.hid (Since.refl w)
  have HX := Lib.hid hx
  have t1 : decide ((200 : Int) < (a.size : Int)) = false := decide_eq_false (by omega)
  have t2 : decide ((200 : Int) < (b.size : Int)) = false := decide_eq_false (by omega)
  have t3 : decide ((200 : Int) < (c.size : Int)) = false := decide_eq_false (by omega)
  have cA := awake_mak
  have HL := Lib.hid hL
  have HM := Lib.hid hM
  have HLM := Lib.hid hLM
  have HMM := Lib.hid hMM
  have HR := Lib.hid hR
  clear hx hL hM hLM hMM hR l1 l2 l3
  go_enter Try.func4, Try.ntmps4
  go_wp2_with fail
  refine cS.calls HX.out ?_
  go_wp2_with fail
  refine (c1.calls) ?_
  go_wp2_with fail
  refine (c2.calls) ?_
  go_wp2_with fail
  refine (c3.calls) ?_
  go_wp2_with fail
  refine (c1.calls) ?_
  go_wp2_with fail
  refine (c4.calls) ?_
  go_wp2_with fail
  refine c5.calls0 HX.out ?_
  intro s wA hs hA
  replace HX := Lib.hid (HX.out.since hA)
  replace HS := Lib.hid (HS.out.step hA)
  have HVs := Lib.hid hs
  clear hs hA
  go_wp2_with fail
  refine (clones wA s M HVs.out HM.out).mono ?_
  rintro e wB ⟨x, rfl, hx, hB⟩
  have HXX := Lib.hid hx
  have HB := Lib.hid hB
  replace HX := Lib.hid (HX.out.since hB)
  clear hx hB
  go_wp2_with fail
  refine (clones wB _ l HX.out HL.out).mono ?_
  rintro e wC ⟨y, rfl, hy, hC⟩
  have hx2 := World.ownsRow.lt HXX.out
  have h3 := Lib.hid (sort_x wA wB wC x y s l M HXX.out HB.out hy hC HVs.out HM.out)
  have HXL : Hid (∀ g, x.ownBlock = some g → g < wB.heap.size) := Lib.hid (fun g h => (hx2 g h).2)
  have HC := Lib.hid hC
  clear hy hC hx2 HXX
  go_wp2_with fail
  refine h3.out.mono ?_
  rintro e wD ⟨rfl, hx, hy, hs, hD, hap, hbd⟩
  have h4 := Lib.hid (sort_y wA wD x y s l M (srtB M) hx (fun g h => Nat.lt_of_lt_of_le (HXL.out g h) hbd) hy hD HVs.out hap HL.out)
  clear hx hy hs hD hap h3 hbd HXL HC HB
  go_wp2_with fail
  refine h4.out.mono ?_
  rintro e wE ⟨rfl, hx, hy, hs, hE⟩
  rw [HMM.out] at hx
  rw [HLM.out] at hy
  have HXX := Lib.hid hx
  have HYY := Lib.hid hy
  replace HVs := Lib.hid hs
  replace HS := Lib.hid (HS.out.step hE)
  clear hx hy hs hE h4 HX
  go_wp2_with fail
  refine (equals_same _ _ _ _ HXX.out HYY.out).mono ?_
  rintro e w7 ⟨rfl, h7⟩
  replace HXX := Lib.hid (HXX.out.since h7)
  replace HVs := Lib.hid (HVs.out.since h7)
  replace HS := Lib.hid (HS.out.step h7)
  clear h7 HYY
  go_wp2_with fail
  refine c6.calls0 HVs.out ?_
  intro s2 w8 hs2 h8
  replace HXX := Lib.hid (HXX.out.since h8)
  replace HVs := Lib.hid (HVs.out.since h8)
  replace HS := Lib.hid (HS.out.step h8)
  have HS2 := Lib.hid hs2
  clear hs2 h8
  go_wp2_with fail
  refine (equals_same _ _ _ _ HS2.out HVs.out).mono ?_
  rintro e w9 ⟨rfl, h9⟩
  replace HXX := Lib.hid (HXX.out.since h9)
  replace HVs := Lib.hid (HVs.out.since h9)
  replace HS := Lib.hid (HS.out.step h9)
  clear h9 HS2
  obtain ⟨N, hN⟩ : ∃ N, N = M.length := ⟨_, rfl⟩
  by_cases hN0 : N = 0
  · obtain ⟨A9, d9, rfl, _⟩ := SlR.empty HXX.out (by rw [← hN]; exact hN0)
    have HR0 := Lib.hid (HR.out.trans (by rw [← hN, hN0]; rfl : (!adjN M (M.length - 1)) = true))
    clear HXX hN hN0
    go_wp2_with fail
    go_loop [12, 13] (fun t i => t = .bool false ∧ i = .int .i64 1) (fun _ i => 1 - (intOf i).toNat)
    case atStart => exact ⟨rfl, rfl⟩
    case round =>
      obtain ⟨rfl, rfl⟩ := hrel
      obtain rfl := HR0.out
      go_wp2_with fail
      refine (c7.calls0 HVs.out) ?_
      intro w10 h10
      replace HS := Lib.hid (HS.out.step (by first | exact h10 | exact (Since.alloc (Since.refl _) _).step h10 | exact (Since.alloc (Since.alloc (Since.refl _) _) _).step h10 | exact (Since.drew (Since.refl _)).step h10 | exact (Since.alloc (Since.alloc (Since.alloc (Since.refl _) _) _) _).step h10))
      clear h10
      go_wp2_with fail
      refine (cA.calls0) ?_
      intro w11 h11
      replace HS := Lib.hid (HS.out.step (by first | exact h11 | exact (Since.alloc (Since.refl _) _).step h11 | exact (Since.alloc (Since.alloc (Since.refl _) _) _).step h11 | exact (Since.drew (Since.refl _)).step h11 | exact (Since.alloc (Since.alloc (Since.alloc (Since.refl _) _) _) _).step h11))
      clear h11
      go_wp2_with fail
      go_ret
      exact ⟨rfl, HS.out⟩
  · obtain ⟨bb, o, cc, rfl, g1, g2, g3, g4⟩ := strs_cells HXX.out (by omega)
    rw [← hN] at g1
    have HCL := Lib.hid g4
    have HN := Lib.hid hN
    have hmx : N ≤ 9223372036854775807 := by unfold maxLen at g2; omega
    have HW9 := Lib.hid (Since.refl w9)
    rw [← hN]
    clear HXX hN g4
    go_wp2_with fail
    go_loopw [12, 13] (fun t i wr => ∃ (k : Nat) (T : Bool), k + 1 ≤ N ∧ t = .bool T ∧ i = .int .i64 ((k : Int) + 1) ∧ Hid (T = adjN M k) ∧ Hid (Since w9 wr)) (fun _ i _ => N - (intOf i).toNat)
    case atStart => exact ⟨0, false, by omega, rfl, rfl, Lib.hid rfl, HW9⟩
    case round =>
      obtain ⟨k, T, hk, rfl, rfl, HA, HSI⟩ := hrel
      by_cases hlt : k + 1 < N
      · obtain ⟨p, hp⟩ : ∃ p, M[k]? = some p := ⟨M[k]'(by rw [← HN.out]; omega), List.getElem?_eq_getElem _⟩
        obtain ⟨q, hq⟩ : ∃ q, M[k+1]? = some q := ⟨M[k+1]'(by rw [← HN.out]; omega), List.getElem?_eq_getElem _⟩
        have m0 := (Below.cell HSI.out (p := ⟨bb, o + k, none⟩) g3).trans (HCL.out k p hp)
        have m1 := (Below.cell HSI.out (p := ⟨bb, o + (k + 1), none⟩) g3).trans (HCL.out (k + 1) q hq)
        have hst := adjN_step M k p q hp hq
        have i1 : (0 : Int) ≤ (k : Int) := by omega
        have i2 : (k : Int) < (N : Int) := by omega
        have i3 : (0 : Int) ≤ (k : Int) + 1 := by omega
        have i4 : (k : Int) + 1 < (N : Int) := by omega
        have e1 : IntKind.i64.wrap ((k : Int) + 1 - 1) = (k : Int) := by rw [IntWalk.i64_in _ (by omega)]; omega
        have e2 : ((k : Int) + 1).toNat = k + 1 := by omega
        have hE : (q.toList == p.toList) = decide (q = p) := by
          by_cases e : q = p
          · rw [str_eq_t e, decide_eq_true e]
          · rw [str_ne_f e, decide_eq_false e]
        rw [← HA.out] at hst
        clear hp hq
        cases hd : decide (q = p) with
        | true =>
          rw [hd] at hE hst
          cases T
          all_goals
            have HA2 := Lib.hid hst.symm
            clear hst hd
            go_wp2_with fail
            go_quiet (fail)
            go_wp2_with fail
            go_roundw
            case rel => exact ⟨k + 1, _, by omega, rfl, by go_num, HA2, Lib.hid (HSI.out.step (belowN _ _))⟩
            case measure => simp [intOf]; omega
        | false =>
          rw [hd] at hE hst
          cases T
          all_goals
            have HA2 := Lib.hid hst.symm
            clear hst hd
            go_wp2_with fail
            go_quiet (fail)
            go_wp2_with fail
            go_roundw
            case rel => exact ⟨k + 1, _, by omega, rfl, by go_num, HA2, Lib.hid (HSI.out.step (belowN _ _))⟩
            case measure => simp [intOf]; omega
      · have hT : T = adjN M (M.length - 1) := by rw [HA.out, ← HN.out, show k = N - 1 by omega]
        have hrt : r = !T := by rw [hT]; exact HR.out
        clear hT
        subst hrt
        replace HVs := Lib.hid (HVs.out.since HSI.out)
        replace HS := Lib.hid (HS.out.step HSI.out)
        clear HA HSI
        cases T
        all_goals
          go_wp2_with fail
          refine (c7.calls0 HVs.out) ?_
          intro w10 h10
          replace HS := Lib.hid (HS.out.step (by first | exact h10 | exact (Since.alloc (Since.refl _) _).step h10 | exact (Since.alloc (Since.alloc (Since.refl _) _) _).step h10 | exact (Since.drew (Since.refl _)).step h10 | exact (Since.alloc (Since.alloc (Since.alloc (Since.refl _) _) _) _).step h10))
          clear h10
          go_wp2_with fail
          refine (cA.calls0) ?_
          intro w11 h11
          replace HS := Lib.hid (HS.out.step (by first | exact h11 | exact (Since.alloc (Since.refl _) _).step h11 | exact (Since.alloc (Since.alloc (Since.refl _) _) _).step h11 | exact (Since.drew (Since.refl _)).step h11 | exact (Since.alloc (Since.alloc (Since.alloc (Since.refl _) _) _) _).step h11))
          clear h11
          go_wp2_with fail
          go_ret
          exact ⟨rfl, HS.out⟩
set_option maxRecDepth 100000 in
set_option maxHeartbeats 8000000 in
theorem core4 (w : World) (a b c : ByteArray) (X : Value) (l M : List ByteArray) (hx : StrsS w X l) (l1 : a.size ≤ 200) (l2 : b.size ≤ 200) (l3 : c.size ≤ 200) (r : Bool) (cS : RdSh l 30 100 true)
    (c1 : Ret 9 #[.string a, .string b] (.bool true)) (c2 : Ret 9 #[.string b, .string a] (.bool false)) (c3 : Ret 9 #[.string a, .string a] (.bool false)) (c4 : Ret 9 #[.string b, .string c] (.bool true)) (c8 : Ret 9 #[.string a, .string c] (.bool true)) (hL : l.length ≤ 1000000) (hM : M.length ≤ 1000000) (hLM : srtB l = M) (hMM : srtB M = M) (hR : r = !adjN M (M.length - 1)) (c5 : MkSS 12 l M) (c6 : MkSS 12 M M) (c7 : RdS 14 M (fun x => #[x]) (.bool r)) :
    Calls Try.prog 4 #[.string a, .string b, .string c, X] w fun x w' => x = .returned (.bool true) ∧ Since w w' := by
  have HS := Lib.hid (Since.refl w)
  have HX := Lib.hid hx
  have t1 : decide ((200 : Int) < (a.size : Int)) = false := decide_eq_false (by omega)
  have t2 : decide ((200 : Int) < (b.size : Int)) = false := decide_eq_false (by omega)
  have t3 : decide ((200 : Int) < (c.size : Int)) = false := decide_eq_false (by omega)
  have cA := awake_mak
  have HL := Lib.hid hL
  have HM := Lib.hid hM
  have HLM := Lib.hid hLM
  have HMM := Lib.hid hMM
  have HR := Lib.hid hR
  clear hx hL hM hLM hMM hR l1 l2 l3
  go_enter Try.func4, Try.ntmps4
  go_wp2_with fail
  refine cS.calls HX.out ?_
  go_wp2_with fail
  refine (c1.calls) ?_
  go_wp2_with fail
  refine (c2.calls) ?_
  go_wp2_with fail
  refine (c3.calls) ?_
  go_wp2_with fail
  refine (c1.calls) ?_
  go_wp2_with fail
  refine (c4.calls) ?_
  go_wp2_with fail
  refine (c8.calls) ?_
  go_wp2_with fail
  refine c5.calls0 HX.out ?_
  intro s wA hs hA
  replace HX := Lib.hid (HX.out.since hA)
  replace HS := Lib.hid (HS.out.step hA)
  have HVs := Lib.hid hs
  clear hs hA
  go_wp2_with fail
  refine (clones wA s M HVs.out HM.out).mono ?_
  rintro e wB ⟨x, rfl, hx, hB⟩
  have HXX := Lib.hid hx
  have HB := Lib.hid hB
  replace HX := Lib.hid (HX.out.since hB)
  clear hx hB
  go_wp2_with fail
  refine (clones wB _ l HX.out HL.out).mono ?_
  rintro e wC ⟨y, rfl, hy, hC⟩
  have hx2 := World.ownsRow.lt HXX.out
  have h3 := Lib.hid (sort_x wA wB wC x y s l M HXX.out HB.out hy hC HVs.out HM.out)
  have HXL : Hid (∀ g, x.ownBlock = some g → g < wB.heap.size) := Lib.hid (fun g h => (hx2 g h).2)
  have HC := Lib.hid hC
  clear hy hC hx2 HXX
  go_wp2_with fail
  refine h3.out.mono ?_
  rintro e wD ⟨rfl, hx, hy, hs, hD, hap, hbd⟩
  have h4 := Lib.hid (sort_y wA wD x y s l M (srtB M) hx (fun g h => Nat.lt_of_lt_of_le (HXL.out g h) hbd) hy hD HVs.out hap HL.out)
  clear hx hy hs hD hap h3 hbd HXL HC HB
  go_wp2_with fail
  refine h4.out.mono ?_
  rintro e wE ⟨rfl, hx, hy, hs, hE⟩
  rw [HMM.out] at hx
  rw [HLM.out] at hy
  have HXX := Lib.hid hx
  have HYY := Lib.hid hy
  replace HVs := Lib.hid hs
  replace HS := Lib.hid (HS.out.step hE)
  clear hx hy hs hE h4 HX
  go_wp2_with fail
  refine (equals_same _ _ _ _ HXX.out HYY.out).mono ?_
  rintro e w7 ⟨rfl, h7⟩
  replace HXX := Lib.hid (HXX.out.since h7)
  replace HVs := Lib.hid (HVs.out.since h7)
  replace HS := Lib.hid (HS.out.step h7)
  clear h7 HYY
  go_wp2_with fail
  refine c6.calls0 HVs.out ?_
  intro s2 w8 hs2 h8
  replace HXX := Lib.hid (HXX.out.since h8)
  replace HVs := Lib.hid (HVs.out.since h8)
  replace HS := Lib.hid (HS.out.step h8)
  have HS2 := Lib.hid hs2
  clear hs2 h8
  go_wp2_with fail
  refine (equals_same _ _ _ _ HS2.out HVs.out).mono ?_
  rintro e w9 ⟨rfl, h9⟩
  replace HXX := Lib.hid (HXX.out.since h9)
  replace HVs := Lib.hid (HVs.out.since h9)
  replace HS := Lib.hid (HS.out.step h9)
  clear h9 HS2
  obtain ⟨N, hN⟩ : ∃ N, N = M.length := ⟨_, rfl⟩
  by_cases hN0 : N = 0
  · obtain ⟨A9, d9, rfl, _⟩ := SlR.empty HXX.out (by rw [← hN]; exact hN0)
    have HR0 := Lib.hid (HR.out.trans (by rw [← hN, hN0]; rfl : (!adjN M (M.length - 1)) = true))
    clear HXX hN hN0
    go_wp2_with fail
    go_loop [12, 13] (fun t i => t = .bool false ∧ i = .int .i64 1) (fun _ i => 1 - (intOf i).toNat)
    case atStart => exact ⟨rfl, rfl⟩
    case round =>
      obtain ⟨rfl, rfl⟩ := hrel
      obtain rfl := HR0.out
      go_wp2_with fail
      refine (c7.calls0 HVs.out) ?_
      intro w10 h10
      replace HS := Lib.hid (HS.out.step (by first | exact h10 | exact (Since.alloc (Since.refl _) _).step h10 | exact (Since.alloc (Since.alloc (Since.refl _) _) _).step h10 | exact (Since.drew (Since.refl _)).step h10 | exact (Since.alloc (Since.alloc (Since.alloc (Since.refl _) _) _) _).step h10))
      clear h10
      go_wp2_with fail
      refine (cA.calls0) ?_
      intro w11 h11
      replace HS := Lib.hid (HS.out.step (by first | exact h11 | exact (Since.alloc (Since.refl _) _).step h11 | exact (Since.alloc (Since.alloc (Since.refl _) _) _).step h11 | exact (Since.drew (Since.refl _)).step h11 | exact (Since.alloc (Since.alloc (Since.alloc (Since.refl _) _) _) _).step h11))
      clear h11
      go_wp2_with fail
      go_ret
      exact ⟨rfl, HS.out⟩
  · obtain ⟨bb, o, cc, rfl, g1, g2, g3, g4⟩ := strs_cells HXX.out (by omega)
    rw [← hN] at g1
    have HCL := Lib.hid g4
    have HN := Lib.hid hN
    have hmx : N ≤ 9223372036854775807 := by unfold maxLen at g2; omega
    have HW9 := Lib.hid (Since.refl w9)
    rw [← hN]
    clear HXX hN g4
    go_wp2_with fail
    go_loopw [12, 13] (fun t i wr => ∃ (k : Nat) (T : Bool), k + 1 ≤ N ∧ t = .bool T ∧ i = .int .i64 ((k : Int) + 1) ∧ Hid (T = adjN M k) ∧ Hid (Since w9 wr)) (fun _ i _ => N - (intOf i).toNat)
    case atStart => exact ⟨0, false, by omega, rfl, rfl, Lib.hid rfl, HW9⟩
    case round =>
      obtain ⟨k, T, hk, rfl, rfl, HA, HSI⟩ := hrel
      by_cases hlt : k + 1 < N
      · obtain ⟨p, hp⟩ : ∃ p, M[k]? = some p := ⟨M[k]'(by rw [← HN.out]; omega), List.getElem?_eq_getElem _⟩
        obtain ⟨q, hq⟩ : ∃ q, M[k+1]? = some q := ⟨M[k+1]'(by rw [← HN.out]; omega), List.getElem?_eq_getElem _⟩
        have m0 := (Below.cell HSI.out (p := ⟨bb, o + k, none⟩) g3).trans (HCL.out k p hp)
        have m1 := (Below.cell HSI.out (p := ⟨bb, o + (k + 1), none⟩) g3).trans (HCL.out (k + 1) q hq)
        have hst := adjN_step M k p q hp hq
        have i1 : (0 : Int) ≤ (k : Int) := by omega
        have i2 : (k : Int) < (N : Int) := by omega
        have i3 : (0 : Int) ≤ (k : Int) + 1 := by omega
        have i4 : (k : Int) + 1 < (N : Int) := by omega
        have e1 : IntKind.i64.wrap ((k : Int) + 1 - 1) = (k : Int) := by rw [IntWalk.i64_in _ (by omega)]; omega
        have e2 : ((k : Int) + 1).toNat = k + 1 := by omega
        have hE : (q.toList == p.toList) = decide (q = p) := by
          by_cases e : q = p
          · rw [str_eq_t e, decide_eq_true e]
          · rw [str_ne_f e, decide_eq_false e]
        rw [← HA.out] at hst
        clear hp hq
        cases hd : decide (q = p) with
        | true =>
          rw [hd] at hE hst
          cases T
          all_goals
            have HA2 := Lib.hid hst.symm
            clear hst hd
            go_wp2_with fail
            go_quiet (fail)
            go_wp2_with fail
            go_roundw
            case rel => exact ⟨k + 1, _, by omega, rfl, by go_num, HA2, Lib.hid (HSI.out.step (belowN _ _))⟩
            case measure => simp [intOf]; omega
        | false =>
          rw [hd] at hE hst
          cases T
          all_goals
            have HA2 := Lib.hid hst.symm
            clear hst hd
            go_wp2_with fail
            go_quiet (fail)
            go_wp2_with fail
            go_roundw
            case rel => exact ⟨k + 1, _, by omega, rfl, by go_num, HA2, Lib.hid (HSI.out.step (belowN _ _))⟩
            case measure => simp [intOf]; omega
      · have hT : T = adjN M (M.length - 1) := by rw [HA.out, ← HN.out, show k = N - 1 by omega]
        have hrt : r = !T := by rw [hT]; exact HR.out
        clear hT
        subst hrt
        replace HVs := Lib.hid (HVs.out.since HSI.out)
        replace HS := Lib.hid (HS.out.step HSI.out)
        clear HA HSI
        cases T
        all_goals
          go_wp2_with fail
          refine (c7.calls0 HVs.out) ?_
          intro w10 h10
          replace HS := Lib.hid (HS.out.step (by first | exact h10 | exact (Since.alloc (Since.refl _) _).step h10 | exact (Since.alloc (Since.alloc (Since.refl _) _) _).step h10 | exact (Since.drew (Since.refl _)).step h10 | exact (Since.alloc (Since.alloc (Since.alloc (Since.refl _) _) _) _).step h10))
          clear h10
          go_wp2_with fail
          refine (cA.calls0) ?_
          intro w11 h11
          replace HS := Lib.hid (HS.out.step (by first | exact h11 | exact (Since.alloc (Since.refl _) _).step h11 | exact (Since.alloc (Since.alloc (Since.refl _) _) _).step h11 | exact (Since.drew (Since.refl _)).step h11 | exact (Since.alloc (Since.alloc (Since.alloc (Since.refl _) _) _) _).step h11))
          clear h11
          go_wp2_with fail
          go_ret
          exact ⟨rfl, HS.out⟩
set_option maxRecDepth 100000 in
set_option maxHeartbeats 4000000 in
theorem core_big (w : World) (a b c : ByteArray) (X : Value) (l : List ByteArray) (hx : StrsS w X l) (q : Bool) (hq : 200 < a.size ∨ 200 < b.size ∨ 200 < c.size ∨ q = false) (cS : RdSh l 30 100 q) :
    Calls Try.prog 4 #[.string a, .string b, .string c, X] w fun x w' => x = .returned (.bool true) ∧ Since w w' := by
  have HS := Lib.hid (Since.refl w)
  have HX := Lib.hid hx
  have cA := awake_mak
  clear hx
  by_cases h1 : 200 < a.size
  · have t1 : decide ((200 : Int) < (a.size : Int)) = true := decide_eq_true (by omega)
    clear hq
    go_enter Try.func4, Try.ntmps4
    go_wp2_with fail
    refine (cA.calls0) ?_
    intro w10 h10
    replace HS := Lib.hid (HS.out.step (by first | exact h10 | exact (Since.alloc (Since.refl _) _).step h10 | exact (Since.alloc (Since.alloc (Since.refl _) _) _).step h10 | exact (Since.drew (Since.refl _)).step h10 | exact (Since.alloc (Since.alloc (Since.alloc (Since.refl _) _) _) _).step h10))
    clear h10
    go_wp2_with fail
    go_ret
    exact ⟨rfl, HS.out⟩
  · have t1 : decide ((200 : Int) < (a.size : Int)) = false := decide_eq_false (by omega)
    by_cases h2 : 200 < b.size
    · have t2 : decide ((200 : Int) < (b.size : Int)) = true := decide_eq_true (by omega)
      clear hq
      go_enter Try.func4, Try.ntmps4
      go_wp2_with fail
      refine (cA.calls0) ?_
      intro w10 h10
      replace HS := Lib.hid (HS.out.step (by first | exact h10 | exact (Since.alloc (Since.refl _) _).step h10 | exact (Since.alloc (Since.alloc (Since.refl _) _) _).step h10 | exact (Since.drew (Since.refl _)).step h10 | exact (Since.alloc (Since.alloc (Since.alloc (Since.refl _) _) _) _).step h10))
      clear h10
      go_wp2_with fail
      go_ret
      exact ⟨rfl, HS.out⟩
    · have t2 : decide ((200 : Int) < (b.size : Int)) = false := decide_eq_false (by omega)
      by_cases h3 : 200 < c.size
      · have t3 : decide ((200 : Int) < (c.size : Int)) = true := decide_eq_true (by omega)
        clear hq
        go_enter Try.func4, Try.ntmps4
        go_wp2_with fail
        refine (cA.calls0) ?_
        intro w10 h10
        replace HS := Lib.hid (HS.out.step (by first | exact h10 | exact (Since.alloc (Since.refl _) _).step h10 | exact (Since.alloc (Since.alloc (Since.refl _) _) _).step h10 | exact (Since.drew (Since.refl _)).step h10 | exact (Since.alloc (Since.alloc (Since.alloc (Since.refl _) _) _) _).step h10))
        clear h10
        go_wp2_with fail
        go_ret
        exact ⟨rfl, HS.out⟩
      · have t3 : decide ((200 : Int) < (c.size : Int)) = false := decide_eq_false (by omega)
        have hqf : q = false := by rcases hq with h | h | h | h; exact absurd h h1; exact absurd h h2; exact absurd h h3; exact h
        subst hqf
        clear hq
        go_enter Try.func4, Try.ntmps4
        go_wp2_with fail
        refine cS.calls HX.out ?_
        go_wp2_with fail
        refine (cA.calls0) ?_
        intro w10 h10
        replace HS := Lib.hid (HS.out.step (by first | exact h10 | exact (Since.alloc (Since.refl _) _).step h10 | exact (Since.alloc (Since.alloc (Since.refl _) _) _).step h10 | exact (Since.drew (Since.refl _)).step h10 | exact (Since.alloc (Since.alloc (Since.alloc (Since.refl _) _) _) _).step h10))
        clear h10
        go_wp2_with fail
        go_ret
        exact ⟨rfl, HS.out⟩
set_option maxRecDepth 100000 in
theorem walk (w : World) (a b c : ByteArray) (A : Option Addr) (n d : Nat) (l : List ByteArray) (_w0 : a.size ≤ maxLen) (_w1 : b.size ≤ maxLen) (_w2 : c.size ≤ maxLen) (hx : StrsS w (.slice A n d) l ∧ Addressed (.slice A n d)) (_hn : n = l.length) (_hl : ∀ s ∈ l, s.size ≤ maxLen) :
    Calls Try.prog 4 #[.string a, .string b, .string c, .slice A n d] w fun e w' => e = .returned (.bool true) ∧ Below w.heap.size w w' := by
  by_cases hb : 200 < a.size ∨ 200 < b.size ∨ 200 < c.size ∨ shortsB l 30 100 = false
  · exact core_big w a b c _ l hx.1 _ hb (shorts_rd l 30 100 _ rfl)
  · have hsm : shortsB l 30 100 = true := by cases h : shortsB l 30 100 with | true => rfl | false => exact absurd (Or.inr (Or.inr (Or.inr h))) hb
    obtain ⟨h1, h2⟩ := shortsB_spec l 30 100 hsm
    have hle : l.length ≤ 1000000 := by omega
    have hM : (srtB l).length ≤ 1000000 := by rw [srtB_len]; omega
    have cS := shorts_rd l 30 100 true hsm.symm
    have k5 := sort_rd l hle
    have k6 := sort_rd (srtB l) hM
    rw [srtB_srtB] at k6
    have k7 := rises_rd (srtB l)
    have k3 := less_ret a a false (by rw [ltB_irrefl])
    cases e1 : ltB a.data.toList b.data.toList with
    | false =>
      cases e2 : ltB b.data.toList a.data.toList with
      | false =>
        have hab : a = b := by rw [← bs_list a, ← bs_list b, ltB_tri _ _ e1 e2]
        exact core1 w a b c _ l _ hx.1 (by omega) (by omega) (by omega) _ cS (str_eq_t hab) (less_ret a b _ e1.symm) (less_ret b a _ e2.symm) k3 hle hM rfl (srtB_srtB l) (rises_adj l) k5 k6 k7
      | true => exact core2 w a b c _ l _ hx.1 (by omega) (by omega) (by omega) _ cS (less_ret a b _ e1.symm) (less_ret b a _ e2.symm) k3 hle hM rfl (srtB_srtB l) (rises_adj l) k5 k6 k7
    | true =>
      have e2 := ltB_asymm _ _ e1
      cases e3 : ltB b.data.toList c.data.toList with
      | false => exact core3 w a b c _ l _ hx.1 (by omega) (by omega) (by omega) _ cS (less_ret a b _ e1.symm) (less_ret b a _ e2.symm) k3 (less_ret b c _ e3.symm) hle hM rfl (srtB_srtB l) (rises_adj l) k5 k6 k7
      | true => exact core4 w a b c _ l _ hx.1 (by omega) (by omega) (by omega) _ cS (less_ret a b _ e1.symm) (less_ret b a _ e2.symm) k3 (less_ret b c _ e3.symm) (less_ret a c _ (ltB_trans _ _ _ e1 e3).symm) hle hM rfl (srtB_srtB l) (rises_adj l) k5 k6 k7

set_option maxRecDepth 100000 in
theorem own : ownKnob Try.prog.godebug = none := by kernel_rfl
set_option maxRecDepth 100000 in
theorem laidOut : laidOutB Try.prog = true := by kernel_rfl

set_option maxRecDepth 100000 in
theorem lifted (os : Os) (started : os.Started) (H : Type) (enc : TypeId × Value → H) :
    ReturnsInHanded {} Try.checked os 4 .any (Rows.setofOrderSpec.pre6 enc Try.prog Try.f4 Rows.setofOrderRow.domain false) (Rows.setofOrderSpec.post enc Try.prog Try.f4 false true false false) := by
  refine returnsInHanded_of_change (C := Try.checked) own started (by kernel_rfl) Try.func4
    (ChangeSpec.witness6 (enc := enc) (C := Try.checked) false ⟨#[], #[.string ⟨#[]⟩, .string ⟨#[]⟩, .string ⟨#[]⟩, .slice none 0 0], []⟩ 8 (by kernel_rfl) (by kernel_rfl) (by kernel_rfl) (by kernel_rfl)) ?_
  intro W base args ds gs before hval0 hW hcnd _
  have hval : ∀ (j : Nat) t v, Try.f4.params[j]? = some t → args[j]? = some v → Value.okWide Try.prog W .any base t v := hval0
  have hW' := hW
  obtain ⟨p, q, hA0, hV, rfl, hfz, hnd⟩ := hW
  have hA : DataW.TrodAll enc Try.prog W 0 (fun _ => true) true Try.f4.params.toList args.toList ds p := hA0
  rw [Try.params4] at hA hval
  obtain ⟨v0, vs0, d0, ds0, p0, q0, hargs, rfl, rfl, h0, r0⟩ := trodAll_cons hA
  obtain ⟨v1, vs1, d1, ds1, p1, q1, rfl, rfl, rfl, h1, r1⟩ := trodAll_cons r0
  obtain ⟨v2, vs2, d2, ds2, p2, q2, rfl, rfl, rfl, h2, r2⟩ := trodAll_cons r1
  obtain ⟨v3, vs3, d3, ds3, p3, q3, rfl, rfl, rfl, h3, r3⟩ := trodAll_cons r2
  obtain ⟨rfl, rfl, rfl⟩ := trodAll_nil r3
  obtain rfl : args = #[v0, v1, v2, v3] := by cases args; simp_all
  obtain ⟨rfl, rfl⟩ := trodVars_none hV
  obtain ⟨a0, rfl, rfl, rfl, w0⟩ := Go.ChangeMaps.open_string Try.underlying9 (hval 0 9 v0 rfl rfl) h0
  obtain ⟨a1, rfl, rfl, rfl, w1⟩ := Go.ChangeMaps.open_string Try.underlying9 (hval 1 9 v1 rfl rfl) h1
  obtain ⟨a2, rfl, rfl, rfl, w2⟩ := Go.ChangeMaps.open_string Try.underlying9 (hval 2 9 v2 rfl rfl) h2
  obtain ⟨a3, n3, c3, rfl⟩ := okWide_slice Try.underlying22 (hval 3 22 v3 rfl rfl)
  have h3k := h3
  obtain ⟨fuel3, hf3⟩ := h3
  have hlt3 : ∀ x ∈ p3, x.block < W.heap.size := fun x hx => by simpa using hW'.lt x (by simp [hx])
  obtain ⟨x3, lA3, lN3, lX3⟩ := strs_arg hf3 hlt3
  clear hA0 hval0
  simp only [List.append_nil] at hW'
  refine (walk W a0 a1 a2 a3 n3 c3 x3 w0 w1 w2 lA3 lN3 lX3).mono fun e W' ⟨he, hg⟩ => ?_
  subst he
  exact ⟨_, rfl, _, _, _, _, _, [], hW', (trodAll_cons_mk (shut_bool Try.underlying4 _) trodAll_mk0), (trodAll_cons_mk (Go.ChangeMaps.shut_string Try.underlying9 w0) (trodAll_cons_mk (Go.ChangeMaps.shut_string Try.underlying9 w1) (trodAll_cons_mk (Go.ChangeMaps.shut_string Try.underlying9 w2) (trodAll_cons_mk (Below.trod laidOut (by kernel_rfl) (of_decide_eq_true (by kernel_rfl)) h3k hg hlt3) trodAll_mk0)))), rfl, hg.frame _, fun h => by cases h⟩

set_option maxRecDepth 100000 in
theorem over : Rows.setofOrderRow.holds Try.pinned (OpenSpec.ofChange Rows.setofOrderSpec) :=
  OpenClaim.holds_of_wide 4 Try.f4 rfl rfl rfl rfl rfl rfl rfl ⟨rfl, rfl, rfl, rfl, rfl⟩ rfl rfl rfl rfl rfl (by kernel_rfl) Try.func4 (by kernel_rfl)
    (of_decide_eq_true (by kernel_rfl)) (by unfold Func.isWrapper; first | (rw [if_pos (by decide +kernel)]; kernel_rfl) | (rw [if_neg (by decide +kernel)]; exact ⟨rfl, rfl⟩))
    (fun os started H enc _ => lifted os started H enc)

theorem proved : Rows.SetofOrderSaid :=
  over

end Go.Proofs.Ytcjdhnggddljbaa.setofOrder
