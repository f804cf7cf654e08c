/- Joined texts. -/
-- PACK: YtjpjfdmcijleoaaTlvSame YtjpjfdmcijleoaaTreeAw YtjpjfdmcijleoaaTlvE YtjpjfdmcijleoaaTreeB
import Derived.Test.YtjpjfdmcijleoaaTr34
import Derived.Test.YtjpjfdmcijleoaaTr36
import Derived.Test.YtjpjfdmcijleoaaTr31
import Derived.Test.YtjpjfdmcijleoaaTr9
import Derived.Deep.RegionHeld3

/- clavigerplain.Same: two trees that are the same. -/
namespace Go.Proofs.Ytjpjfdmcijleoaa
open Go.RowKit
namespace Tlv
open Span Flt Rw
def SameT (N : List Nd) : Prop := ∀ w a b, TreeS w a N → TreeS w b N → Calls Try.prog 15 #[a, b] w fun x w' => x = .returned (.bool true) ∧ Since w w'
set_option maxRecDepth 100000 in
theorem same_nil : SameT [] := by
  intro w a b ha hb
  obtain ⟨A, d, rfl, -, -⟩ := ha.slice
  obtain ⟨B, e, rfl, -, -⟩ := hb.slice
  clear ha hb
  have HS := Lib.hid (Since.refl w)
  go_enter Try.func15, Try.ntmps15
  go_wp2_with fail
  go_loop [5] (fun i => i = .int .i64 0) (fun _ => 0)
  case atStart => rfl
  case round =>
    obtain rfl := hrel
    go_wp2_with fail
    go_ret
    exact ⟨rfl, HS.out⟩
set_option maxRecDepth 100000 in
set_option maxHeartbeats 4000000 in
theorem same_t (N : List Nd) (hN : N.length ≤ 1000000) : SameT N := by
  by_cases h0 : N.length = 0
  · obtain rfl := List.length_eq_zero_iff.1 h0
    exact same_nil
  intro w a b ha hb
  obtain ⟨b1, o1, d1, rfl, -, -, l1, c1⟩ := ha.form (by omega)
  obtain ⟨b2, o2, d2, rfl, -, -, l2, c2⟩ := hb.form (by omega)
  have HC1 := Lib.hid c1
  have HC2 := Lib.hid c2
  have HS := Lib.hid (Since.refl w)
  have t1 : ((N.length : Int) != (N.length : Int)) = false := bne_self_eq_false _
  clear ha hb c1 c2
  go_enter Try.func15, Try.ntmps15
  go_wp2_with fail
  go_loopw [5] (fun i wr => ∃ k : Nat, k ≤ N.length ∧ i = .int .i64 (k : Int) ∧ Hid (Since w wr)) (fun i _ => N.length - (intOf i).toNat)
  case atStart => exact ⟨0, Nat.zero_le _, rfl, HS⟩
  case round =>
    clear HS
    obtain ⟨k, hk, rfl, HS⟩ := hrel
    by_cases hlt : k < N.length
    · obtain ⟨⟨c, t, bb, d, ks⟩, hx⟩ : ∃ x, N[k]? = some x := ⟨_, List.getElem?_eq_getElem hlt⟩
      obtain ⟨kv1, m0, m1, m2, m3, m4, m5⟩ := HC1.out k _ hx
      obtain ⟨kv2, n0, n1, n2, n3, n4, n5⟩ := HC2.out k _ hx
      dsimp only at m0 m1 m2 m3 m5 n0 n1 n2 n3 n5
      obtain ⟨A1, e1, rfl, -, -⟩ := m5.slice
      obtain ⟨A2, e2, rfl, -, -⟩ := n5.slice
      have M5 := Lib.hid m5
      have N5 := Lib.hid n5
      replace m0 := (Below.cell HS.out (p := ⟨b1, o1 + k * 5, none⟩) l1).trans m0
      replace m1 := (Below.cell HS.out (p := ⟨b1, o1 + k * 5 + 1, none⟩) l1).trans m1
      replace m2 := (Below.cell HS.out (p := ⟨b1, o1 + k * 5 + 2, none⟩) l1).trans m2
      replace m3 := (Below.cell HS.out (p := ⟨b1, o1 + k * 5 + 3, none⟩) l1).trans m3
      replace m4 := (Below.cell HS.out (p := ⟨b1, o1 + k * 5 + 4, none⟩) l1).trans m4
      replace n0 := (Below.cell HS.out (p := ⟨b2, o2 + k * 5, none⟩) l2).trans n0
      replace n1 := (Below.cell HS.out (p := ⟨b2, o2 + k * 5 + 1, none⟩) l2).trans n1
      replace n2 := (Below.cell HS.out (p := ⟨b2, o2 + k * 5 + 2, none⟩) l2).trans n2
      replace n3 := (Below.cell HS.out (p := ⟨b2, o2 + k * 5 + 3, none⟩) l2).trans n3
      replace n4 := (Below.cell HS.out (p := ⟨b2, o2 + k * 5 + 4, none⟩) l2).trans n4
      have i1 : (0 : Int) ≤ (k : Int) := by omega
      have i2 : (k : Int) < (N.length : Int) := by omega
      have l1' : b1 < wr.heap.size := Nat.lt_of_lt_of_le l1 (Below.size HS.out)
      have l2' : b2 < wr.heap.size := Nat.lt_of_lt_of_le l2 (Below.size HS.out)
      have c9 := pints_rd ks ks true (by simp)
      clear hx m5 n5
      go_wp2_with fail
      have ne1 : wr.heap.size ≠ b1 := by omega
      have ne2 : wr.heap.size ≠ b2 := by omega
      have ne3 : wr.heap.size + 1 ≠ b1 := by omega
      have ne4 : wr.heap.size + 1 ≠ b2 := by omega
      go_region_held3 (fun W' => W'.cell? ⟨b1, o1 + k * 5, none⟩ = some (.int .i64 c) ∧ W'.cell? ⟨b1, o1 + k * 5 + 1, none⟩ = some (.int .i64 t) ∧ W'.cell? ⟨b1, o1 + k * 5 + 2, none⟩ = some (.bool bb) ∧ W'.cell? ⟨b1, o1 + k * 5 + 3, none⟩ = some (.string d) ∧ W'.cell? ⟨b1, o1 + k * 5 + 4, none⟩ = some (.slice A1 ks.length e1) ∧ W'.cell? ⟨b2, o2 + k * 5, none⟩ = some (.int .i64 c) ∧ W'.cell? ⟨b2, o2 + k * 5 + 1, none⟩ = some (.int .i64 t) ∧ W'.cell? ⟨b2, o2 + k * 5 + 2, none⟩ = some (.bool bb) ∧ W'.cell? ⟨b2, o2 + k * 5 + 3, none⟩ = some (.string d) ∧ W'.cell? ⟨b2, o2 + k * 5 + 4, none⟩ = some (.slice A2 ks.length e2)) (go_keep) (fail)
      · have x5 := (hr_old (w := w) (t := 40) ⟨heap_alloc_new wr (.cells #[.int .i64 c, .int .i64 t, .bool bb, .string d, .slice A1 ks.length e1] 40)⟩ (.cells #[.int .i64 c, .int .i64 t, .bool bb, .string d, .slice A2 ks.length e2] 40)).step (Since.drew (Since.refl _))
        have y5 := (hr_two w wr #[.int .i64 c, .int .i64 t, .bool bb, .string d, .slice A1 ks.length e1] #[.int .i64 c, .int .i64 t, .bool bb, .string d, .slice A2 ks.length e2] 40 40).step (Since.drew (Since.refl _))
        have s5 : Since wr (((wr.alloc (.cells #[.int .i64 c, .int .i64 t, .bool bb, .string d, .slice A1 ks.length e1] 40)).alloc (.cells #[.int .i64 c, .int .i64 t, .bool bb, .string d, .slice A2 ks.length e2] 40)).drew) := (((Since.refl wr).alloc _).alloc _).drew
        obtain ⟨W5, hW5⟩ : ∃ W5, W5 = ((wr.alloc (.cells #[.int .i64 c, .int .i64 t, .bool bb, .string d, .slice A1 ks.length e1] 40)).alloc (.cells #[.int .i64 c, .int .i64 t, .bool bb, .string d, .slice A2 ks.length e2] 40)).drew := ⟨_, rfl⟩
        rw [← hW5] at x5 y5 s5 ⊢
        have x0 := hr_cell x5 0 _ rfl
        have x1 := hr_cell x5 1 _ rfl
        have x2 := hr_cell x5 2 _ rfl
        have x3 := hr_cell x5 3 _ rfl
        have x4 := hr_cell x5 4 _ rfl
        have y0 := hr_cell y5 0 _ rfl
        have y1 := hr_cell y5 1 _ rfl
        have y2 := hr_cell y5 2 _ rfl
        have y3 := hr_cell y5 3 _ rfl
        have y4 := hr_cell y5 4 _ rfl
        have M6 := Lib.hid ((M5.out.since HS.out).since s5)
        have N6 := Lib.hid ((N5.out.since HS.out).since s5)
        have HS6 := Lib.hid (HS.out.step s5)
        clear hW5 x5 y5 s5 m0 m1 m2 m3 m4 n0 n1 n2 n3 n4
        go_wp2_with fail
        refine c9.calls0 M6.out N6.out ?_
        intro w7 h7
        replace HS6 := Lib.hid (HS6.out.step h7)
        clear h7 x0 x1 x2 x3 x4 y0 y1 y2 y3 y4
        go_wp2_with fail
        go_roundw
        case rel => exact ⟨k + 1, by omega, by go_num, HS6⟩
        case measure => simp [intOf]; omega
      · have x5 := (hr_old (w := w) (t := 40) ⟨heap_alloc_new wr (.cells #[.int .i64 c, .int .i64 t, .bool bb, .string d, .slice A2 ks.length e2] 40)⟩ (.cells #[.int .i64 c, .int .i64 t, .bool bb, .string d, .slice A1 ks.length e1] 40)).step (Since.drew (Since.refl _))
        have y5 := (hr_two w wr #[.int .i64 c, .int .i64 t, .bool bb, .string d, .slice A2 ks.length e2] #[.int .i64 c, .int .i64 t, .bool bb, .string d, .slice A1 ks.length e1] 40 40).step (Since.drew (Since.refl _))
        have s5 : Since wr (((wr.alloc (.cells #[.int .i64 c, .int .i64 t, .bool bb, .string d, .slice A2 ks.length e2] 40)).alloc (.cells #[.int .i64 c, .int .i64 t, .bool bb, .string d, .slice A1 ks.length e1] 40)).drew) := (((Since.refl wr).alloc _).alloc _).drew
        obtain ⟨W5, hW5⟩ : ∃ W5, W5 = ((wr.alloc (.cells #[.int .i64 c, .int .i64 t, .bool bb, .string d, .slice A2 ks.length e2] 40)).alloc (.cells #[.int .i64 c, .int .i64 t, .bool bb, .string d, .slice A1 ks.length e1] 40)).drew := ⟨_, rfl⟩
        rw [← hW5] at x5 y5 s5 ⊢
        have x0 := hr_cell x5 0 _ rfl
        have x1 := hr_cell x5 1 _ rfl
        have x2 := hr_cell x5 2 _ rfl
        have x3 := hr_cell x5 3 _ rfl
        have x4 := hr_cell x5 4 _ rfl
        have y0 := hr_cell y5 0 _ rfl
        have y1 := hr_cell y5 1 _ rfl
        have y2 := hr_cell y5 2 _ rfl
        have y3 := hr_cell y5 3 _ rfl
        have y4 := hr_cell y5 4 _ rfl
        have M6 := Lib.hid ((M5.out.since HS.out).since s5)
        have N6 := Lib.hid ((N5.out.since HS.out).since s5)
        have HS6 := Lib.hid (HS.out.step s5)
        clear hW5 x5 y5 s5 m0 m1 m2 m3 m4 n0 n1 n2 n3 n4
        go_wp2_with fail
        refine c9.calls0 M6.out N6.out ?_
        intro w7 h7
        replace HS6 := Lib.hid (HS6.out.step h7)
        clear h7 x0 x1 x2 x3 x4 y0 y1 y2 y3 y4
        go_wp2_with fail
        go_roundw
        case rel => exact ⟨k + 1, by omega, by go_num, HS6⟩
        case measure => simp [intOf]; omega
    · obtain rfl : k = N.length := by omega
      go_wp2_with fail
      go_ret
      exact ⟨rfl, HS.out⟩
end Tlv
end Go.Proofs.Ytjpjfdmcijleoaa

/- What the laws of trees stand on: all of them for one tree; awake. -/
namespace Go.Proofs.Ytjpjfdmcijleoaa
open Go.RowKit
namespace Tree
open Tlv Strs Rw
/-- what is written, and whether -/
structure EncT (N : List Nd) (X : ByteArray) (E : Int) : Prop where
  yes : rigB rightB N = true → ∃ g, IsT rightB N g ∧ X = bs g.enc ∧ E = 0
  no : rigB rightB N = false → X = ⟨#[]⟩ ∧ E = 1
theorem enc_t (N : List Nd) (hs : Small N) (hl : N.length ≤ 300) (hd : ∀ x ∈ N, x.d.size ≤ 200) : ∃ X E, EncT N X E ∧ RdT 8 N (fun v => #[v]) (.tuple #[.string X, .int .i64 E]) ∧ RdT 9 N (fun v => #[v]) (.tuple #[.string X, .int .i64 E]) := by
  have c1 := rig_rd N hs
  have c2 := rrig_rd N hs
  cases hr : rigB rightB N with
  | false =>
    rw [hr] at c1 c2
    exact ⟨⟨#[]⟩, 1, ⟨(fun h => absurd h (by rw [hr]; decide)), (fun _ => ⟨rfl, rfl⟩)⟩, enc_not N c1, renc_not N c2⟩
  | true =>
    rw [hr] at c1 c2
    obtain ⟨g, hg⟩ := right_is hr
    have hw := wr_of hg
    have hle := enc_le g 0 (by rw [← hg.flat]; exact hd)
    have hc : N.length = g.cnt := by rw [hg.flat, F.flat_len]
    have hf := fair_of hg
    exact ⟨bs g.enc, 0, ⟨(fun _ => ⟨g, hg, rfl, rfl⟩), (fun h => absurd h (by rw [hr]; decide))⟩, enc_yes N _ _ hw (by omega) hs hg.len hf.kids c1, renc_yes N _ c2 (bytes_root N _ _ hw (by omega) hg.len)⟩
theorem dep_t (N : List Nd) (hs : Small N) : ∃ D : Nat, D ≤ 16 ∧ (∀ g, IsT rightB N g → D = g.deep) ∧ RdT 13 N (fun v => #[v]) (.int .i64 (D : Int)) ∧ RdT 14 N (fun v => #[v]) (.int .i64 (D : Int)) := by
  have c1 := rig_rd N hs
  have c2 := rrig_rd N hs
  cases hr : rigB rightB N with
  | false =>
    rw [hr] at c1 c2
    exact ⟨0, Nat.zero_le _, fun g hg => (by rw [is_right hg] at hr; cases hr), dep_not N c1, rdep_not N c2⟩
  | true =>
    rw [hr] at c1 c2
    obtain ⟨g, hg⟩ := right_is hr
    refine ⟨g.deep, hg.deep, fun g' hg' => ?_, dep_yes N _ _ (lev_of hg) hg.deep hg.len c1, rdep_yes N _ c2 (depth_root N _ _ (hgt_of hg) hg.len)⟩
    have h1 := (lev_of hg).top
    have h2 := (hgt_of hg).top
    have h3 := (hgt_of hg').top
    have key : ∀ (H H' : List Nat) (m m' : Nat), Hgt N H m → Hgt N H' m' → ∀ k j, N.length - j ≤ k → j < N.length → H.getD j 0 = H'.getD j 0 := by
      intro H H' m m' hH hH' k
      induction k with
      | zero => intro j h1 h2; omega
      | succ k ih =>
        intro j h1 h2
        obtain ⟨x, hx⟩ : ∃ x, N[j]? = some x := ⟨_, List.getElem?_eq_getElem h2⟩
        obtain ⟨a1, -, a3⟩ := hH.at_ j x hx
        obtain ⟨b1, -, b3⟩ := hH'.at_ j x hx
        rw [a1, b1]
        congr 2
        apply List.map_congr_left
        intro a ha
        obtain ⟨q1, q2⟩ := a3 a ha
        exact ih a.toNat (by omega) (by omega)
    rw [← h2, ← h3]
    exact key _ _ _ _ (hgt_of hg) (hgt_of hg') _ 0 (Nat.le_refl _) (hgt_of hg).pos
/-- the tree of awake -/
def g0 : F := .cons 0 16 (.prim 0 2 ⟨#[5]⟩ .nil) .nil
def n0 : List Nd := g0.flat 0
theorem is0 : IsT rightB n0 g0 := ⟨⟨by decide, by decide, .inr (.inl rfl), ⟨by decide, by decide, .inr (by decide +kernel), trivial⟩, trivial⟩, rfl, rfl, by decide, by decide⟩
theorem small0 : Small n0 := ⟨by decide, fun x hx => by
  rcases List.mem_cons.1 hx with rfl | hx
  · decide
  · rw [List.mem_singleton.1 (show x ∈ [(⟨0, 2, false, ⟨#[5]⟩, []⟩ : Nd)] from hx)]; decide⟩
theorem enc0 : bs g0.enc = ⟨#[48, 3, 2, 1, 5]⟩ := by decide +kernel
theorem sub0 : (subV n0 1).length = 1 := by decide +kernel
theorem deep0 : g0.deep = 2 := by decide +kernel
theorem of0 : ofN 0 16 [[⟨0, 2, false, ⟨#[5]⟩, []⟩]] = n0 := ofN_flat 0 16 [.prim 0 2 ⟨#[5]⟩ .nil] (fun g hg => by rw [List.mem_singleton.1 hg]; rfl)
set_option maxRecDepth 100000 in
set_option maxHeartbeats 4000000 in
theorem awake_core (N : List Nd) (c1 : MkT 21 #[.int .i64 0, .int .i64 2, .string ⟨#[5]⟩] [⟨0, 2, false, ⟨#[5]⟩, []⟩])
    (c2 : ∀ w P, TreesS w P [[⟨0, 2, false, ⟨#[5]⟩, []⟩]] → Calls Try.prog 20 #[.int .i64 0, .int .i64 16, P] w fun e w' => ∃ v', e = .returned v' ∧ TreeS w' v' N ∧ Since w w')
    (c3 : RdT 8 N (fun v => #[v]) (.tuple #[.string ⟨#[48, 3, 2, 1, 5]⟩, .int .i64 0])) (c4 : RdT 10 N (fun v => #[v]) (.bool true)) (c5 : RdT 13 N (fun v => #[v]) (.int .i64 2)) (c6 : RdT 12 N (fun v => #[v]) (.int .i64 5))
    (c7 : ∀ w v, TreeS w v N → Calls Try.prog 19 #[v] w fun e w' => ∃ A c, e = .returned (.slice A 1 c) ∧ Since w w') (c8 : ∀ w v, TreeS w v N → Calls Try.prog 16 #[v, .int .i64 1] w fun e w' => ∃ A c, e = .returned (.slice A 1 c) ∧ Since w w') : Mak 7 #[] (.bool true) := by
  intro w
  go_enter Try.func7, Try.ntmps7
  go_wp2_with fail
  refine (c1 _).mono ?_
  rintro _ w1 ⟨v1, rfl, h1, hs1⟩
  obtain ⟨A1, q1, hv1, -, -⟩ := h1.slice
  subst hv1
  have hP : TreesS (w1.alloc (.cells #[.slice A1 1 q1] 23)) (.slice (some ⟨w1.heap.size, 0, none⟩) 1 1) [[⟨0, 2, false, ⟨#[5]⟩, []⟩]] := by
    refine ⟨[.slice A1 1 q1], SlR.lit w1 1 1 _ rfl (by decide) _ rfl _, fun j x N' hx hN => ?_⟩
    have hj := (List.getElem?_eq_some_iff.1 hx).1
    have hj0 : j = 0 := by simpa using hj
    subst hj0
    cases hx
    cases hN
    exact h1.since ((Since.refl w1).alloc _)
  have HP := Lib.hid hP
  have HS := Lib.hid (hs1.alloc (.cells #[.slice A1 1 q1] 23))
  clear h1 hs1 hP c1
  go_wp2_with fail
  refine (c2 _ _ HP.out).mono ?_
  rintro _ w2 ⟨v2, rfl, h2, hs2⟩
  replace HS := Lib.hid (HS.out.step hs2)
  have HT := Lib.hid h2
  clear h2 hs2 HP c2
  go_wp2_with fail
  refine c3.calls0 HT.out ?_
  intro w3 h3
  replace HS := Lib.hid (HS.out.step h3)
  replace HT := Lib.hid (HT.out.since h3)
  clear h3
  go_wp2_with fail
  refine c4.calls0 HT.out ?_
  intro w4 h4
  replace HS := Lib.hid (HS.out.step h4)
  replace HT := Lib.hid (HT.out.since h4)
  clear h4
  go_wp2_with fail
  refine c5.calls0 HT.out ?_
  intro w5 h5
  replace HS := Lib.hid (HS.out.step h5)
  replace HT := Lib.hid (HT.out.since h5)
  clear h5
  go_wp2_with fail
  refine c6.calls0 HT.out ?_
  intro w6 h6
  replace HS := Lib.hid (HS.out.step h6)
  replace HT := Lib.hid (HT.out.since h6)
  clear h6
  go_wp2_with fail
  refine (c7 _ _ HT.out).mono ?_
  rintro _ w7 ⟨A7, q7, rfl, h7⟩
  replace HS := Lib.hid (HS.out.step h7)
  replace HT := Lib.hid (HT.out.since h7)
  clear h7
  go_wp2_with fail
  refine (c8 _ _ HT.out).mono ?_
  rintro _ w8 ⟨A8, q8, rfl, h8⟩
  replace HS := Lib.hid (HS.out.step h8)
  replace HT := Lib.hid (HT.out.since h8)
  clear h8
  go_wp2_with fail
  go_ret
  exact ⟨rfl, HS.out⟩
theorem awake_mak : Mak 7 #[] (.bool true) := by
  have c4 := rig_rd n0 small0
  rw [is_right is0] at c4
  have hw := wr_of is0
  have hf := fair_of is0
  have c3 := enc_yes n0 _ _ hw (by decide) small0 is0.len hf.kids c4
  rw [enc0] at c3
  have c5 := dep_yes n0 _ _ (lev_of is0) is0.deep is0.len c4
  rw [deep0] at c5
  have c6 := size_rd n0 _ _ c3
  refine awake_core n0 (leaf_mk 0 2 ⟨#[5]⟩) (fun w P hP => ?_) c3 c4 c5 c6 (fun w v h => ?_) (fun w v h => ?_)
  · have h9 := of_mk 0 16 [[⟨0, 2, false, ⟨#[5]⟩, []⟩]] (fun N hN => by
      rw [List.mem_singleton.1 hN]
      exact ⟨by decide, fun x hx => by rw [List.mem_singleton.1 hx]; exact Nat.zero_le _, fun x hx a ha => by rw [List.mem_singleton.1 hx] at ha; cases ha⟩) (by decide) (fun a => ?_) (fun a x hx => ?_) w P hP
    · rw [of0] at h9
      exact h9
    · cases a with
      | zero => decide
      | succ a => rw [List.take_of_length_le (by simp)]; decide +kernel
    · have key : ∀ x ∈ n0, x.k.length ≤ 100000 := hf.kids
      cases a with
      | zero =>
        rw [List.mem_singleton.1 (show x ∈ [(⟨0, 16, true, ⟨#[]⟩, []⟩ : Nd)] from hx)]
        exact Nat.zero_le _
      | succ a =>
        rw [List.take_of_length_le (by simp)] at hx
        exact key x (by rw [← of0]; exact hx)
  · obtain ⟨Ns, hl, -, hk⟩ := kids_mk is0 small0 ⟨0, 16, true, ⟨#[]⟩, [1]⟩ rfl
    refine (hk w v h).mono ?_
    rintro e w' ⟨v', he, hT, hs⟩
    obtain ⟨A, c, hv, -, -⟩ := hT.slice
    rw [hl] at hv
    exact ⟨A, c, by rw [he, hv]; rfl, hs⟩
  · refine (sub_mk n0 small0 1 w v h).mono ?_
    rintro e w' ⟨v', he, hT, hs⟩
    obtain ⟨A, c, hv, -, -⟩ := hT.slice
    rw [sub0] at hv
    exact ⟨A, c, by rw [he, hv], hs⟩
end Tree
end Go.Proofs.Ytjpjfdmcijleoaa

/- Elements within one another: what stands behind, and what is left out at the end: plain mathematics. -/
namespace Go.Proofs.Ytjpjfdmcijleoaa
namespace Tlv
theorem ext_more (s m : ByteArray) (i j : Nat) (h : j ≤ s.size) : (s ++ m).extract i j = s.extract i j := by
  apply ByteArray.ext
  have e1 : (s ++ m).data = s.data ++ m.data := by simp
  rw [ByteArray.data_extract, ByteArray.data_extract, e1, Array.extract_append]
  have e2 : j - s.data.size = 0 := by
    have : s.data.size = s.size := rfl
    omega
  rw [e2]
  simp
theorem look_app (R : Int → ByteArray → Bool) (s m : ByteArray) (p e deep cnt : Nat) (h : e ≤ s.size) : look R (s ++ m) p e deep cnt = look R s p e deep cnt := by
  unfold look
  rw [ext_more s m p e h]
  obtain ⟨hh, k, x, hq⟩ : ∃ hh k x, Head.dec (s.extract p e).data.toList = (hh, k, x) := ⟨_, _, _, rfl⟩
  rw [hq]
  dsimp only
  by_cases hx : x ≠ 0
  · rw [if_pos hx, if_pos hx]
  rw [if_neg hx, if_neg hx]
  by_cases hf : e - p < k + hh.n
  · rw [if_pos hf, if_pos hf]
  rw [if_neg hf, if_neg hf]
  have hx0 : x = 0 := by omega
  subst hx0
  have h2 := Head.enc_dec _ _ _ hq
  have h5 := h2.2.2.2.2
  have h8 : 2 ≤ (Head.encL hh.c hh.t hh.b hh.n).length := by
    unfold Head.encL Head.tagL Head.lenL Head.seg
    simp only [List.length_append]
    split <;> (try split) <;> (try split) <;> (try split) <;> (try split) <;> simp
  rw [h5, List.length_take] at h8
  rw [ext_more s m _ _ (by omega : p + k + hh.n ≤ s.size)]
theorem dec_app (R : Int → ByteArray → Bool) (s m : ByteArray) : ∀ (f p e deep cnt : Nat), e ≤ s.size → dec R (s ++ m) f p e deep cnt = dec R s f p e deep cnt := by
  intro f
  induction f with
  | zero => intro p e deep cnt _; rfl
  | succ f ih =>
    intro p e deep cnt he
    unfold dec
    rw [look_app R s m p e deep cnt he]
    by_cases hp : e ≤ p
    · rw [if_pos hp, if_pos hp]
    rw [if_neg hp, if_neg hp]
    cases hl : look R s p e deep cnt with
    | error c => rfl
    | ok x =>
      obtain ⟨h, k⟩ := x
      have lk := look_ok hl
      have l1 := lk.fit
      have l2 := lk.pos
      dsimp only
      rw [ih (p + k) (p + k + h.n) (deep + 1) (cnt + 1) (by omega), ih (p + k + h.n) e deep (cnt + 1) he, ext_more s m _ _ (by omega : p + k + h.n ≤ s.size)]
      split
      · cases dec R s f (p + k) (p + k + h.n) (deep + 1) (cnt + 1) with
        | error x => rfl
        | ok ks => dsimp only; rw [ih (p + k + h.n) e deep (cnt + 1 + ks.cnt) he]
      · rfl
theorem look_more {R : Int → ByteArray → Bool} {s m : ByteArray} {deep cnt : Nat} {h : Head.Hd} {k : Nat} (hl : look R s 0 s.size deep cnt = .ok (h, k)) : look R (s ++ m) 0 (s ++ m).size deep cnt = .ok (h, k) := by
  have lk := look_ok hl
  have l1 := lk.fit
  have hsz : (s ++ m).size = s.size + m.size := by simp
  have hx : ∀ t : ByteArray, t.extract 0 t.size = t := fun t => by simp
  have hd : Head.dec ((s ++ m).extract 0 (s ++ m).size).data.toList = (h, k, 0) := by
    rw [hx]
    have e1 : (s ++ m).data.toList = s.data.toList ++ m.data.toList := by simp
    have e2 := lk.enc
    rw [hx] at e2
    rw [e1, ← List.take_append_drop k s.data.toList, ← e2, List.append_assoc, Head.dec_enc h.c h.t h.n h.b lk.c3 lk.tm lk.nm, lk.len]
  unfold look
  rw [hd]
  dsimp only
  have l2 := lk.deep
  have l3 := lk.cnt
  rw [if_neg (by decide), if_neg (by omega), if_neg (by omega), if_neg (by omega), ext_more s m _ _ (by omega : 0 + k + h.n ≤ s.size), if_pos lk.form]
theorem top_more {R : Int → ByteArray → Bool} {s m : ByteArray} {g : F} (ht : top R s = .ok g) (hm : 0 < m.size) (hs : s.size + m.size ≤ 65535) : top R (s ++ m) = .error (5, s.size) := by
  have hsz : (s ++ m).size = s.size + m.size := by simp
  unfold top at ht ⊢
  by_cases h0 : s.size = 0
  · rw [if_pos h0] at ht; cases ht
  rw [if_neg h0, if_neg (by omega)] at ht
  rw [if_neg (by omega), if_neg (by omega)]
  unfold one at ht ⊢
  cases hl : look R s 0 s.size 1 0 with
  | error c => rw [hl] at ht; cases ht
  | ok x =>
    obtain ⟨h, k⟩ := x
    have lk := look_ok hl
    have l1 := lk.fit
    rw [look_more hl]
    rw [hl] at ht
    dsimp only at ht ⊢
    have hA : decA R (s ++ m) (0 + k) (0 + k + h.n) (1 + 1) (0 + 1) = decA R s (0 + k) (0 + k + h.n) (1 + 1) (0 + 1) := dec_app R s m _ _ _ _ _ (by omega)
    rw [hA, ext_more s m _ _ (by omega : 0 + k + h.n ≤ s.size)]
    cases hb : h.b with
    | true =>
      rw [hb] at ht
      simp only [if_true] at ht ⊢
      cases hd : decA R s (0 + k) (0 + k + h.n) (1 + 1) (0 + 1) with
      | error x => rw [hd] at ht; cases ht
      | ok ks =>
        rw [hd] at ht
        dsimp only at ht ⊢
        by_cases hq : 0 + k + h.n < s.size
        · rw [if_pos hq] at ht; cases ht
        · rw [if_pos (by omega), show 0 + k + h.n = s.size by omega]
    | false =>
      rw [hb] at ht
      simp only [Bool.false_eq_true, if_false] at ht ⊢
      by_cases hq : 0 + k + h.n < s.size
      · rw [if_pos hq] at ht; cases ht
      · rw [if_pos (by omega), show 0 + k + h.n = s.size by omega]
theorem top_less {R : Int → ByteArray → Bool} {s : ByteArray} {g : F} (ht : top R s = .ok g) (n : Nat) (hn : n < s.size) (hs : s.size ≤ 65535) : ∃ x, top R (s.extract 0 n) = .error x := by
  cases h : top R (s.extract 0 n) with
  | error x => exact ⟨x, rfl⟩
  | ok g' =>
    have e1 : s.extract 0 n ++ s.extract n s.size = s := by
      apply ByteArray.ext
      have : s.data.size = s.size := rfl
      simp
    have h1 : (s.extract 0 n).size = n := by rw [ByteArray.size_extract]; omega
    have h2 : (s.extract n s.size).size = s.size - n := by rw [ByteArray.size_extract]; omega
    have h9 := top_more (m := s.extract n s.size) h (by omega) (by omega)
    rw [e1, ht] at h9
    cases h9
theorem look_err {R : Int → ByteArray → Bool} {s : ByteArray} {p e deep cnt c : Nat} (h : look R s p e deep cnt = .error c) : c ≠ 0 := by
  unfold look at h
  obtain ⟨hh, k, x, hq⟩ : ∃ hh k x, Head.dec (s.extract p e).data.toList = (hh, k, x) := ⟨_, _, _, rfl⟩
  rw [hq] at h
  dsimp only at h
  by_cases hx : x ≠ 0
  · rw [if_pos hx] at h; cases h; exact hx
  rw [if_neg hx] at h
  split at h
  · cases h; decide
  split at h
  · cases h; decide
  split at h
  · cases h; decide
  split at h
  · cases h
  · cases h; decide
theorem dec_err {R : Int → ByteArray → Bool} {s : ByteArray} : ∀ (f p e deep cnt c q : Nat), p ≤ s.size → e ≤ s.size → dec R s f p e deep cnt = .error (c, q) → c ≠ 0 ∧ q ≤ s.size := by
  intro f
  induction f with
  | zero => intro p e deep cnt c q hp _ h; cases h; exact ⟨by decide, hp⟩
  | succ f ih =>
    intro p e deep cnt c q hp he h
    unfold dec at h
    by_cases hpe : e ≤ p
    · rw [if_pos hpe] at h; cases h
    rw [if_neg hpe] at h
    cases hl : look R s p e deep cnt with
    | error c' => rw [hl] at h; cases h; exact ⟨look_err hl, hp⟩
    | ok x =>
      obtain ⟨hh, k⟩ := x
      have lk := look_ok hl
      have l1 := lk.fit
      rw [hl] at h
      dsimp only at h
      split at h
      · cases h1 : dec R s f (p + k) (p + k + hh.n) (deep + 1) (cnt + 1) with
        | error y => rw [h1] at h; cases h; exact ih _ _ _ _ _ _ (by omega) (by omega) h1
        | ok ks =>
          rw [h1] at h
          dsimp only at h
          cases h2 : dec R s f (p + k + hh.n) e deep (cnt + 1 + ks.cnt) with
          | error y => rw [h2] at h; cases h; exact ih _ _ _ _ _ _ (by omega) he h2
          | ok nx => rw [h2] at h; cases h
      · cases h2 : dec R s f (p + k + hh.n) e deep (cnt + 1) with
        | error y => rw [h2] at h; cases h; exact ih _ _ _ _ _ _ (by omega) he h2
        | ok nx => rw [h2] at h; cases h
theorem top_err_ok {R : Int → ByteArray → Bool} {s : ByteArray} {c p : Nat} (h : top R s = .error (c, p)) : c ≠ 0 ∧ p ≤ s.size := by
  unfold top at h
  split at h
  · cases h; exact ⟨by decide, Nat.zero_le _⟩
  split at h
  · cases h; exact ⟨by decide, Nat.zero_le _⟩
  unfold one at h
  cases hl : look R s 0 s.size 1 0 with
  | error c' => rw [hl] at h; cases h; exact ⟨look_err hl, Nat.zero_le _⟩
  | ok x =>
    obtain ⟨hh, k⟩ := x
    have lk := look_ok hl
    have l1 := lk.fit
    rw [hl] at h
    dsimp only at h
    cases hb : hh.b with
    | true =>
      rw [hb] at h
      simp only [if_true] at h
      cases h1 : decA R s (0 + k) (0 + k + hh.n) (1 + 1) (0 + 1) with
      | error y => rw [h1] at h; cases h; exact dec_err _ _ _ _ _ _ _ (by omega) (by omega) h1
      | ok ks =>
        rw [h1] at h
        dsimp only at h
        split at h
        · cases h; exact ⟨by decide, by omega⟩
        · cases h
    | false =>
      rw [hb] at h
      simp only [Bool.false_eq_true, if_false] at h
      split at h
      · cases h; exact ⟨by decide, by omega⟩
      · cases h
theorem top_some {R : Int → ByteArray → Bool} {s : ByteArray} {g : F} (h : top R s = .ok g) : 0 < s.size ∧ s.size ≤ 65535 := by
  unfold top at h
  split at h
  · cases h
  split at h
  · cases h
  omega
end Tlv
end Go.Proofs.Ytjpjfdmcijleoaa

/- Trees that are written and read: plain mathematics. -/
namespace Go.Proofs.Ytjpjfdmcijleoaa
namespace Tree
open Tlv
theorem dec_okF (R : Int → ByteArray → Bool) (s : ByteArray) : ∀ (f p e deep cnt : Nat) (g : F), dec R s f p e deep cnt = .ok g → okF R g ∧ (g.deep = 0 ∨ deep + g.deep ≤ 17) ∧ (g.cnt = 0 ∨ cnt + g.cnt ≤ 1000) := by
  intro f
  induction f with
  | zero => intro p e deep cnt g h; cases h
  | succ f ih =>
    intro p e deep cnt g h
    unfold dec at h
    split at h
    · cases h
      exact ⟨trivial, .inl rfl, .inl rfl⟩
    · cases hl : Tlv.look R s p e deep cnt with
      | error c => rw [hl] at h; cases h
      | ok x =>
        obtain ⟨hd, k⟩ := x
        have hk := look_ok hl
        have k1 := hk.c3
        have k2 := hk.tm
        have k3 := hk.deep
        have k4 := hk.cnt
        have k5 := hk.form
        rw [hl] at h
        simp only at h
        unfold formB at k5
        split at h
        · rename_i hb
          rw [if_pos hb] at k5
          simp only [Bool.or_eq_true, decide_eq_true_eq] at k5
          cases hq : dec R s f (p + k) (p + k + hd.n) (deep + 1) (cnt + 1) with
          | error x => rw [hq] at h; cases h
          | ok ks =>
            rw [hq] at h
            simp only at h
            cases hq2 : dec R s f (p + k + hd.n) e deep (cnt + 1 + ks.cnt) with
            | error x => rw [hq2] at h; cases h
            | ok nx =>
              rw [hq2] at h
              cases h
              obtain ⟨a1, a2, a3⟩ := ih _ _ _ _ _ hq
              obtain ⟨b1, b2, b3⟩ := ih _ _ _ _ _ hq2
              refine ⟨⟨k1, k2, ?_, a1, b1⟩, .inr ?_, .inr ?_⟩
              · rcases k5 with k5 | k5 | k5
                · exact .inl k5
                · exact .inr (.inl k5)
                · exact .inr (.inr k5)
              · show deep + max (ks.deep + 1) nx.deep ≤ 17
                omega
              · show cnt + (1 + ks.cnt + nx.cnt) ≤ 1000
                omega
        · rename_i hb
          rw [if_neg hb] at k5
          simp only [Bool.or_eq_true, decide_eq_true_eq] at k5
          cases hq : dec R s f (p + k + hd.n) e deep (cnt + 1) with
          | error x => rw [hq] at h; cases h
          | ok nx =>
            rw [hq] at h
            cases h
            obtain ⟨a1, a2, a3⟩ := ih _ _ _ _ _ hq
            refine ⟨⟨k1, k2, ?_, a1⟩, .inr ?_, .inr ?_⟩
            · rcases k5 with k5 | k5
              · exact .inl k5
              · exact .inr k5
            · show deep + max 1 nx.deep ≤ 17
              omega
            · show cnt + (1 + nx.cnt) ≤ 1000
              omega
theorem one_single {R : Int → ByteArray → Bool} {s : ByteArray} {p e deep cnt q : Nat} {g : F} (h : Tlv.one R s p e deep cnt = .ok (g, q)) : single g := by
  unfold Tlv.one at h
  cases hl : Tlv.look R s p e deep cnt with
  | error c => rw [hl] at h; cases h
  | ok x =>
    obtain ⟨hd, k⟩ := x
    rw [hl] at h
    simp only at h
    split at h
    · cases hq : decA R s (p + k) (p + k + hd.n) (deep + 1) (cnt + 1) with
      | error x => rw [hq] at h; cases h
      | ok ks => rw [hq] at h; cases h; rfl
    · cases h; rfl
theorem decA_nilq {R : Int → ByteArray → Bool} {s : ByteArray} {p e deep cnt : Nat} (h : decA R s p e deep cnt = .ok .nil) : e ≤ p := by
  by_cases hp : p < e
  · rw [decA_step R s p e deep cnt hp] at h
    cases hl : Tlv.look R s p e deep cnt with
    | error c => rw [hl] at h; cases h
    | ok x =>
      obtain ⟨hd, k⟩ := x
      rw [hl] at h
      simp only at h
      split at h
      · cases hq : decA R s (p + k) (p + k + hd.n) (deep + 1) (cnt + 1) with
        | error x => rw [hq] at h; cases h
        | ok ks =>
          rw [hq] at h
          simp only at h
          cases hq2 : decA R s (p + k + hd.n) e deep (cnt + 1 + ks.cnt) with
          | error x => rw [hq2] at h; cases h
          | ok nx => rw [hq2] at h; cases h
      · cases hq : decA R s (p + k + hd.n) e deep (cnt + 1) with
        | error x => rw [hq] at h; cases h
        | ok nx => rw [hq] at h; cases h
  · omega
theorem app_single {g1 nx g : F} (h : g1.app nx = g) (h1 : single g1) (h2 : single g) : nx = .nil ∧ g1 = g := by
  cases g1 with
  | nil => exact absurd h1 (by intro h; exact h)
  | prim c t d n1 =>
    cases (show n1 = .nil from h1)
    subst h
    have h3 : nx = .nil := h2
    subst h3
    exact ⟨rfl, rfl⟩
  | cons c t ks n1 =>
    cases (show n1 = .nil from h1)
    subst h
    have h3 : nx = .nil := h2
    subst h3
    exact ⟨rfl, rfl⟩
theorem top_is {R : Int → ByteArray → Bool} {s : ByteArray} {g : F} (h : top R s = .ok g) : IsT R (g.flat 0) g ∧ g.enc = s.data.toList := by
  obtain ⟨h0, h1⟩ := top_some h
  unfold top at h
  rw [if_neg (by omega), if_neg (by omega)] at h
  cases ho : Tlv.one R s 0 s.size 1 0 with
  | error x => rw [ho] at h; cases h
  | ok y =>
    obtain ⟨g1, q⟩ := y
    rw [ho] at h
    simp only at h
    split at h
    · cases h
    · rename_i hq
      cases h
      have hd := decA_one R s 0 s.size 1 0 h0
      rw [ho] at hd
      simp only at hd
      rw [decA_nil R s q s.size 1 _ (by omega)] at hd
      simp only [F.app_nil] at hd
      unfold decA at hd
      obtain ⟨a1, a2, a3⟩ := dec_okF R s _ _ _ _ _ _ hd
      have hs := one_single ho
      have he := Tlv.dec_enc R s _ 0 s.size 1 0 g (Nat.zero_le _) (Nat.le_refl _) hd
      have hx : s.extract 0 s.size = s := by simp
      rw [hx] at he
      exact ⟨⟨a1, hs, rfl, by omega, by rw [F.flat_len]; omega⟩, he⟩
theorem enc_two {g : F} (h : single g) : 2 ≤ g.enc.length := F.enc_pos g (fun e => by rw [e] at h; exact h)
theorem top_enc {R : Int → ByteArray → Bool} {N : List Nd} {g : F} (h : IsT R N g) (hl : g.enc.length ≤ 65535) : top R (bs g.enc) = .ok g := by
  have h2 := enc_two h.one
  have hsz : (bs g.enc).size = g.enc.length := size_bs _
  have hc : g.cnt ≤ 1000 := by have := h.len; rw [h.flat, F.flat_len] at this; exact this
  have hx : (bs g.enc).extract 0 (bs g.enc).size = bs g.enc := by simp
  have hd := dec_of R (bs g.enc) g ((bs g.enc).size - 0 + 1) 0 (bs g.enc).size 1 0 h.ok (by rw [hx]; rfl) (Nat.le_refl _) (Nat.zero_le _) (by have := h.deep; omega) (by omega) (by omega) hl
  have hd2 : decA R (bs g.enc) 0 (bs g.enc).size 1 0 = .ok g := hd
  rw [decA_one R _ 0 _ 1 0 (by omega)] at hd2
  unfold top
  rw [if_neg (by omega), if_neg (by omega)]
  cases ho : Tlv.one R (bs g.enc) 0 (bs g.enc).size 1 0 with
  | error x => rw [ho] at hd2; cases hd2
  | ok y =>
    obtain ⟨g1, q⟩ := y
    rw [ho] at hd2
    simp only at hd2 ⊢
    cases hq : decA R (bs g.enc) q (bs g.enc).size 1 (0 + g1.cnt) with
    | error x => rw [hq] at hd2; cases hd2
    | ok nx =>
      rw [hq] at hd2
      simp only [Except.ok.injEq] at hd2
      obtain ⟨rfl, rfl⟩ := app_single hd2 (one_single ho) h.one
      have := decA_nilq hq
      rw [if_neg (by omega)]
end Tree
end Go.Proofs.Ytjpjfdmcijleoaa
