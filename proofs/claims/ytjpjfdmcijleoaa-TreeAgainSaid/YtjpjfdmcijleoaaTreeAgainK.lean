/- The law TreeAgain: a tree that may be, taken apart, and made again of its parts, is as it was; no conditions. -/
import Derived.Test.YtjpjfdmcijleoaaRows
import Derived.WalkKit
import Derived.ProofKit
import Derived.OpenShut
import Derived.Lib.Hide
import Derived.Lib.SmallJoins
import Derived.Test.YtjpjfdmcijleoaaTr37
namespace Go.Proofs.Ytjpjfdmcijleoaa.treeAgain
open Go.ChangeShapes Go.WideShapes Go.ChangeAt Go.RowKit Tlv Tree
/-- what stands: the tree, its parts, two of its cells -/
structure TA (w : World) (b o : Nat) (v : Value) (N : List Nd) (p : Value) (Ns : List (List Nd)) (C T : Int) (W : World) : Prop where
  since : Since w W
  lt : b < w.heap.size
  tree : TreeS W v N
  kids : TreesS W p Ns
  c0 : W.cell? ⟨b, o, none⟩ = some (.int .i64 C)
  c1 : W.cell? ⟨b, o + 1, none⟩ = some (.int .i64 T)
section
variable {w : World} {b o : Nat} {v : Value} {N : List Nd} {p : Value} {Ns : List (List Nd)} {C T : Int} {W W' : World}
theorem tastep (hs : Since W W') (h : Hid (TA w b o v N p Ns C T W)) : Hid (TA w b o v N p Ns C T W') := by
  have hl : b < W.heap.size := Nat.lt_of_lt_of_le h.out.lt (Below.size h.out.since)
  exact Lib.hid ⟨h.out.since.step hs, h.out.lt, h.out.tree.since hs, h.out.kids.since hs, (Below.cell hs (p := ⟨b, o, none⟩) hl).trans h.out.c0, (Below.cell hs (p := ⟨b, o + 1, none⟩) hl).trans h.out.c1⟩
theorem tadrew (h : Hid (TA w b o v N p Ns C T W)) : Hid (TA w b o v N p Ns C T W.drew) := tastep (Since.drew (Since.refl _)) h
theorem ta2 (h : Hid (TA w b o v N p Ns C T W)) : Hid (TA w b o v N p Ns C T W) ∧ W.cell? ⟨b, o, none⟩ = some (.int .i64 C) ∧ W.cell? ⟨b, o + 1, none⟩ = some (.int .i64 T) := ⟨h, h.out.c0, h.out.c1⟩
end
theorem kids_len (g : F) (hc : g.cnt ≤ 2000) : ∀ x ∈ g.flat 0, x.k.length ≤ 100000 := by
  have hkl : ∀ (g : F) (i : Nat), (g.tops i).length ≤ g.cnt := by
    intro g
    induction g with
    | nil => intro i; exact Nat.le_refl _
    | prim c t d nx ih => intro i; show (nx.tops (i + 1)).length + 1 ≤ 1 + nx.cnt; have := ih (i + 1); omega
    | cons c t ks nx _ ih => intro i; show (nx.tops (i + 1 + ks.cnt)).length + 1 ≤ 1 + ks.cnt + nx.cnt; have := ih (i + 1 + ks.cnt); omega
  have hall : ∀ (g : F) (i : Nat), ∀ x ∈ g.flat i, x.k.length ≤ g.cnt := by
    intro g
    induction g with
    | nil => intro i x h; cases h
    | prim c t d nx ih =>
      intro i x h
      show _ ≤ 1 + nx.cnt
      rcases List.mem_cons.1 (show x ∈ (⟨c, t, false, d, []⟩ : Nd) :: nx.flat (i + 1) from h) with rfl | h
      · exact Nat.zero_le _
      · have := ih _ x h; omega
    | cons c t ks nx ih1 ih2 =>
      intro i x h
      show _ ≤ 1 + ks.cnt + nx.cnt
      rcases List.mem_cons.1 (show x ∈ (⟨c, t, true, ⟨#[]⟩, ks.tops (i + 1)⟩ : Nd) :: (ks.flat (i + 1) ++ nx.flat (i + 1 + ks.cnt)) from h) with rfl | h
      · have := hkl ks (i + 1)
        show (ks.tops (i + 1)).length ≤ _
        omega
      · rcases List.mem_append.1 h with h | h
        · have := ih1 _ x h; omega
        · have := ih2 _ x h; omega
  intro x hx
  have := hall g 0 x hx
  omega
set_option maxRecDepth 100000 in
theorem core_no (N : List Nd) (w : World) (v : Value) (hT : TreeS w v N) (c0 : RdT 6 N (fun v => #[v, .int .i64 60]) (.bool false)) : Calls Try.prog 5 #[v] w fun e w' => e = .returned (.bool true) ∧ Since w w' := by
  have HS := Lib.hid (Since.refl w)
  have HT := Lib.hid hT
  clear hT
  go_enter Try.func5, Try.ntmps5
  go_wp2_with fail
  refine c0.calls0 HT.out ?_
  intro w1 h1
  replace HS := Lib.hid (HS.out.step h1)
  replace HT := Lib.hid (HT.out.since h1)
  clear h1
  go_wp2_with fail
  refine awake_mak.calls0 ?_
  intro w2 h2
  replace HS := Lib.hid (HS.out.step h2)
  replace HT := Lib.hid (HT.out.since h2)
  clear h2
  go_wp2_with fail
  go_ret
  exact ⟨rfl, HS.out⟩
set_option maxRecDepth 100000 in
theorem core_not (N : List Nd) (w : World) (v : Value) (hT : TreeS w v N) (c0 : RdT 6 N (fun v => #[v, .int .i64 60]) (.bool true)) (c1 : RdT 11 N (fun v => #[v]) (.bool false)) : Calls Try.prog 5 #[v] w fun e w' => e = .returned (.bool true) ∧ Since w w' := by
  have HS := Lib.hid (Since.refl w)
  have HT := Lib.hid hT
  clear hT
  go_enter Try.func5, Try.ntmps5
  go_wp2_with fail
  refine c0.calls0 HT.out ?_
  intro w1 h1
  replace HS := Lib.hid (HS.out.step h1)
  replace HT := Lib.hid (HT.out.since h1)
  clear h1
  go_wp2_with fail
  refine c1.calls0 HT.out ?_
  intro w2 h2
  replace HS := Lib.hid (HS.out.step h2)
  replace HT := Lib.hid (HT.out.since h2)
  clear h2
  go_wp2_with fail
  refine awake_mak.calls0 ?_
  intro w3 h3
  replace HS := Lib.hid (HS.out.step h3)
  replace HT := Lib.hid (HT.out.since h3)
  clear h3
  go_wp2_with fail
  go_ret
  exact ⟨rfl, HS.out⟩
set_option maxRecDepth 100000 in
set_option maxHeartbeats 4000000 in
theorem core_prim (N : List Nd) (x0 : Nd) (hx0 : N[0]? = some x0) (hb : x0.b = false) (w : World) (v : Value) (hT : TreeS w v N) (c0 : RdT 6 N (fun v => #[v, .int .i64 60]) (.bool true)) (c1 : RdT 11 N (fun v => #[v]) (.bool true))
    (c2 : ∀ w v, TreeS w v N → Calls Try.prog 19 #[v] w fun e w' => ∃ A c, e = .returned (.slice A 0 c) ∧ Since w w') (c3 : MkE 16 N (fun v => #[v, .int .i64 0]) N) (d1 : SameT N) : Calls Try.prog 5 #[v] w fun e w' => e = .returned (.bool true) ∧ Since w w' := by
  have HS := Lib.hid (Since.refl w)
  have HT := Lib.hid hT
  have hpos : 0 < N.length := (List.getElem?_eq_some_iff.1 hx0).1
  obtain ⟨b, o, c, rfl, -, -, b1, b2⟩ := treeform hT hpos
  obtain ⟨A, q, m0, m1, m2, m3, m4, m5⟩ := b2 0 x0 hx0
  rw [Nat.zero_mul, Nat.add_zero] at m0 m1 m2
  have B1 := Lib.hid b1
  have M0 := Lib.hid m0
  have M1 := Lib.hid m1
  have M2 := Lib.hid m2
  have x1 : (0 : Int) < (N.length : Int) := by omega
  clear hT b1 b2 m0 m1 m2 m3 m4 m5 hx0
  go_enter Try.func5, Try.ntmps5
  go_wp2_with fail
  refine c0.calls0 HT.out ?_
  intro w1 h1
  replace HS := Lib.hid (HS.out.step h1)
  replace HT := Lib.hid (HT.out.since h1)
  clear h1
  go_wp2_with fail
  refine c1.calls0 HT.out ?_
  intro w2 h2
  replace HS := Lib.hid (HS.out.step h2)
  replace HT := Lib.hid (HT.out.since h2)
  clear h2
  have n2 := (Below.cell HS.out (p := ⟨b, o + 2, none⟩) B1.out).trans M2.out
  rw [hb] at n2
  go_wp2_with fail
  clear n2
  refine (c2 _ _ HT.out).mono ?_
  rintro _ w3 ⟨A3, q3, rfl, h3⟩
  replace HS := Lib.hid (HS.out.step h3)
  replace HT := Lib.hid (HT.out.since h3)
  clear h3
  go_wp2_with fail
  refine (c3 _ _ HT.out).mono ?_
  rintro _ w4 ⟨v4, rfl, hv4, h4⟩
  have HV := Lib.hid hv4
  clear hv4
  replace HS := Lib.hid (HS.out.step h4)
  replace HT := Lib.hid (HT.out.since h4)
  clear h4
  go_wp2_with fail
  refine (d1 _ _ _ HV.out HT.out).mono ?_
  rintro _ w5 ⟨rfl, h5⟩
  replace HS := Lib.hid (HS.out.step h5)
  replace HT := Lib.hid (HT.out.since h5)
  clear h5
  go_wp2_with fail
  refine awake_mak.calls0 ?_
  intro w6 h6
  replace HS := Lib.hid (HS.out.step h6)
  replace HT := Lib.hid (HT.out.since h6)
  clear h6
  go_wp2_with fail
  go_ret
  exact ⟨rfl, HS.out⟩
set_option maxRecDepth 100000 in
set_option maxHeartbeats 8000000 in
theorem core_cons (N : List Nd) (x0 : Nd) (hx0 : N[0]? = some x0) (hb : x0.b = true) (w : World) (v : Value) (hT : TreeS w v N) (c0 : RdT 6 N (fun v => #[v, .int .i64 60]) (.bool true)) (c1 : RdT 11 N (fun v => #[v]) (.bool true))
    (Ns : List (List Nd)) (hnl : Ns.length ≤ 100000) (c2 : ∀ w v, TreeS w v N → Calls Try.prog 19 #[v] w fun e w' => ∃ v', e = .returned v' ∧ TreesS w' v' Ns ∧ Since w w') (D : Nat) (c3 : RdT 13 N (fun v => #[v]) (.int .i64 (D : Int)))
    (c4 : ∀ M ∈ Ns, RdT 10 M (fun v => #[v]) (.bool true) ∧ ∃ d : Nat, d < D ∧ RdT 13 M (fun v => #[v]) (.int .i64 (d : Int)))
    (c5 : ∀ w P, TreesS w P Ns → Calls Try.prog 20 #[.int .i64 x0.c, .int .i64 x0.t, P] w fun e w' => ∃ v', e = .returned v' ∧ TreeS w' v' N ∧ Since w w') (d1 : SameT N) : Calls Try.prog 5 #[v] w fun e w' => e = .returned (.bool true) ∧ Since w w' := by
  have HC4 := Lib.hid c4
  clear c4
  have HS := Lib.hid (Since.refl w)
  have HT := Lib.hid hT
  have hpos : 0 < N.length := (List.getElem?_eq_some_iff.1 hx0).1
  obtain ⟨b, o, c, rfl, -, -, b1, b2⟩ := treeform hT hpos
  obtain ⟨A, q, m0, m1, m2, m3, m4, m5⟩ := b2 0 x0 hx0
  rw [Nat.zero_mul, Nat.add_zero] at m0 m1 m2
  have B1 := Lib.hid b1
  have M0 := Lib.hid m0
  have M1 := Lib.hid m1
  have M2 := Lib.hid m2
  have x1 : (0 : Int) < (N.length : Int) := by omega
  clear hT b1 b2 m0 m1 m2 m3 m4 m5 hx0
  go_enter Try.func5, Try.ntmps5
  go_wp2_with fail
  refine c0.calls0 HT.out ?_
  intro w1 h1
  replace HS := Lib.hid (HS.out.step h1)
  replace HT := Lib.hid (HT.out.since h1)
  clear h1
  go_wp2_with fail
  refine c1.calls0 HT.out ?_
  intro w2 h2
  replace HS := Lib.hid (HS.out.step h2)
  replace HT := Lib.hid (HT.out.since h2)
  clear h2
  have n2 := (Below.cell HS.out (p := ⟨b, o + 2, none⟩) B1.out).trans M2.out
  rw [hb] at n2
  go_wp2_with fail
  clear n2
  refine (c2 _ _ HT.out).mono ?_
  rintro _ w3 ⟨v3, rfl, hv3, h3⟩
  obtain ⟨A3, q3, rfl, -, -⟩ := hv3.slice
  have HV := Lib.hid hv3
  clear hv3
  replace HS := Lib.hid (HS.out.step h3)
  replace HT := Lib.hid (HT.out.since h3)
  clear h3
  go_wp2_with fail
  go_loopw [37] (fun i wr => ∃ a : Nat, i = .int .i64 (a : Int) ∧ a ≤ Ns.length ∧ Hid (Since w3 wr)) (fun i _ => Ns.length - (intOf i).toNat)
  case atStart => exact ⟨0, rfl, Nat.zero_le _, Lib.hid (Since.refl _)⟩
  case round =>
    obtain ⟨a, rfl, ha, HI⟩ := hrel
    by_cases hlt : a < Ns.length
    · obtain ⟨bk, ok, dk, hv, l3, l4⟩ := HV.out.form (by omega)
      obtain ⟨rfl, -, rfl⟩ := Value.slice.inj hv
      clear hv
      obtain ⟨M, hM⟩ : ∃ M, Ns[a]? = some M := ⟨_, List.getElem?_eq_getElem hlt⟩
      obtain ⟨x, hx1, hx2⟩ := l4 a M hM
      have n9 := (Below.cell HI.out (p := ⟨bk, ok + a, none⟩) l3).trans hx1
      obtain ⟨e1, d, hd, e2⟩ := HC4.out M (List.mem_iff_getElem?.2 ⟨a, hM⟩)
      have HX := Lib.hid (hx2.since HI.out)
      have HT2 := Lib.hid (HT.out.since HI.out)
      have t1 : decide ((D : Int) ≤ (d : Int)) = false := decide_eq_false (by omega)
      have t2 : decide (D ≤ d) = false := decide_eq_false (by omega)
      clear hM l4 hx1 hx2 hd
      go_wp2_with fail
      refine e1.calls0 HX.out ?_
      intro w5 h5
      replace HX := Lib.hid (HX.out.since h5)
      replace HT2 := Lib.hid (HT2.out.since h5)
      replace HI := Lib.hid (HI.out.step h5)
      clear h5 n9
      go_wp2_with fail
      refine e2.calls0 HX.out ?_
      intro w6 h6
      replace HT2 := Lib.hid (HT2.out.since h6)
      replace HI := Lib.hid (HI.out.step h6)
      clear h6 HX
      go_wp2_with fail
      refine c3.calls0 HT2.out ?_
      intro w7 h7
      replace HI := Lib.hid (HI.out.step h7)
      clear h7 HT2
      go_wp2_with fail
      go_roundw
      case rel => exact ⟨a + 1, by go_num, by omega, HI⟩
      case measure => (simp [intOf] <;> omega)
    · obtain rfl : a = Ns.length := by omega
      replace HS := Lib.hid (HS.out.step HI.out)
      replace HT := Lib.hid (HT.out.since HI.out)
      replace HV := Lib.hid (HV.out.since HI.out)
      have n0 := (Below.cell HS.out (p := ⟨b, o, none⟩) B1.out).trans M0.out
      have n1 := (Below.cell HS.out (p := ⟨b, o + 1, none⟩) B1.out).trans M1.out
      have hA := Lib.hid (show TA w b o (.slice (some ⟨b, o, none⟩) N.length c) N (.slice A3 Ns.length q3) Ns x0.c x0.t _ from ⟨HS.out, B1.out, HT.out, HV.out, n0, n1⟩)
      clear HI n0 n1 HS HT HV
      go_wp2_with fail
      obtain ⟨_, n0, n1⟩ := ta2 hA
      go_region_held3 (fun W' => Hid (TA w b o (.slice (some ⟨b, o, none⟩) N.length c) N (.slice A3 Ns.length q3) Ns x0.c x0.t W') ∧ W'.cell? ⟨b, o, none⟩ = some (.int .i64 x0.c) ∧ W'.cell? ⟨b, o + 1, none⟩ = some (.int .i64 x0.t))
        (first | exact ta2 (by assumption) | exact ta2 (tadrew (by assumption)))
        (first
          | (go_at_call 20; refine (c5 _ _ (Hid.out (by first | assumption | exact tadrew (by assumption) : Hid (TA w b o (.slice (some ⟨b, o, none⟩) N.length c) N (.slice A3 Ns.length q3) Ns x0.c x0.t _))).kids).mono ?_; rintro _ w8 ⟨v8, rfl, hv8, h8⟩; have hA8 : Hid (TA w b o (.slice (some ⟨b, o, none⟩) N.length c) N (.slice A3 Ns.length q3) Ns x0.c x0.t w8) := tastep h8 (by first | assumption | exact tadrew (by assumption)); clear h8)
          | (go_at_call 15; refine (d1 _ _ _ hv8 (Hid.out hA8).tree).mono ?_; rintro _ w9 ⟨rfl, h9⟩; have hA9 : Hid (TA w b o (.slice (some ⟨b, o, none⟩) N.length c) N (.slice A3 Ns.length q3) Ns x0.c x0.t w9) := tastep h9 hA8; clear h9)
          | (go_at_call 7; refine (awake_mak _).mono ?_; rintro _ w10 ⟨rfl, h10⟩; have hA10 : Hid (TA w b o (.slice (some ⟨b, o, none⟩) N.length c) N (.slice A3 Ns.length q3) Ns x0.c x0.t w10) := tastep h10 hA9; clear h10))
      all_goals
        go_wp2_with fail
        go_ret
        exact ⟨rfl, hA10.out.since⟩
set_option maxRecDepth 100000 in
theorem walk (w : World) (A : Option Addr) (n c : Nat) (N : List Nd) (hT : TreeS w (.slice A n c) N) (_hN : n = N.length) (_h : True) : Calls Try.prog 5 #[.slice A n c] w fun e w' => e = .returned (.bool true) ∧ Below w.heap.size w w' := by
  have c0 := plain_rd N 60 (by decide) _ rfl
  cases hp : plainT N 60 with
  | false => rw [hp] at c0; exact core_no N w _ hT c0
  | true =>
    rw [hp] at c0
    obtain ⟨hs, hl, hd, hk⟩ := plain_small (by decide) hp
    have c1 := rrig_rd N hs
    cases hr : rigB Strs.rightB N with
    | false => rw [hr] at c1; exact core_not N w _ hT c0 c1
    | true =>
      rw [hr] at c1
      obtain ⟨g, hg⟩ := right_is hr
      have hpos := (wr_of hg).pos
      obtain ⟨x0, hx0⟩ : ∃ x, N[0]? = some x := ⟨_, List.getElem?_eq_getElem hpos⟩
      obtain ⟨Ns, hnl, hNs, hkids⟩ := kids_mk hg hs x0 hx0
      have d1 := same_t N (by omega)
      have hsub : subV N 0 = N := by
        obtain ⟨s, s1, s2, s3, s4⟩ := sub_of hg 0 hpos
        have hroot : behB Strs.rightB N 16 0 = some N.length := by
          unfold rigB at hr
          simp only [Bool.and_eq_true, decide_eq_true_eq] at hr
          exact hr.2
        unfold subV
        rw [if_pos ⟨hr, Int.le_refl _, by omega⟩]
        show (match behB Strs.rightB N 16 0 with | some e => subN N 0 e | none => []) = N
        rw [hroot]
        show subN N 0 N.length = N
        unfold subN
        rw [List.take_length, List.drop_zero]
        conv => rhs; rw [← List.map_id N]
        apply List.map_congr_left
        intro x _
        unfold shift
        obtain ⟨c', t', b', d', k'⟩ := x
        simp
      cases hgc : g with
      | nil => rw [hgc] at hg; exact absurd hg.one (by intro h; exact h)
      | prim c' t' d' nx =>
        rw [hgc] at hg
        cases (show nx = .nil from hg.one)
        have hxe : x0 = ⟨c', t', false, d', []⟩ := by
          have h9 := hx0
          rw [hg.flat] at h9
          exact (Option.some.inj h9).symm
        have c3 := sub_mk N hs 0
        rw [hsub] at c3
        refine core_prim N x0 hx0 (by rw [hxe]) w _ hT c0 c1 (fun w v h => ?_) c3 d1
        refine (hkids w v h).mono ?_
        rintro e w' ⟨v', he, hT', hs'⟩
        obtain ⟨A', q', hv', -, -⟩ := hT'.slice
        rw [hnl, hxe] at hv'
        exact ⟨A', q', by rw [he, hv']; rfl, hs'⟩
      | cons c' t' ks nx =>
        rw [hgc] at hg hNs
        cases (show nx = .nil from hg.one)
        have hxe : x0 = ⟨c', t', true, ⟨#[]⟩, ks.tops 1⟩ := by
          have h9 := hx0
          rw [hg.flat] at h9
          exact (Option.some.inj h9).symm
        have hNs2 := hNs c' t' ks rfl
        have hkd : ks.deep + 1 ≤ 16 := by have h9 : max (ks.deep + 1) 0 ≤ 16 := hg.deep; omega
        have hpart : ∀ M ∈ Ns, ∃ p, IsT Strs.rightB M p ∧ p.deep ≤ ks.deep ∧ p ∈ parts ks ∧ M = p.flat 0 := by
          intro M hM
          rw [hNs2] at hM
          obtain ⟨p, hp1, rfl⟩ := List.mem_map.1 hM
          obtain ⟨j, hj⟩ := List.mem_iff_getElem?.1 hp1
          obtain ⟨q1, q2, q3, aa, q4, q5⟩ := parts_at Strs.rightB ks 1 j p hg.ok.2.2.2.1 hj
          have hA : At N 1 (ks.flat 1) := by
            have h9 : At N 0 ((⟨c', t', true, ⟨#[]⟩, ks.tops 1⟩ : Nd) :: (ks.flat 1 ++ [])) := fun j x hx => by rw [Nat.zero_add, hg.flat]; exact hx
            rw [List.append_nil] at h9
            exact At.tail h9
          have hle := beh_le (beh_single q1 q2 (q5 N hA) (show p.deep ≤ 16 by omega))
          exact ⟨p, ⟨q2, q1, rfl, by omega, by rw [F.flat_len]; have := hg.len; omega⟩, q3, hp1, rfl⟩
        have hsmP : ∀ M ∈ Ns, Small M := by
          intro M hM
          obtain ⟨p, hp1, hp2, hp3, rfl⟩ := hpart M hM
          have hcl : (p.flat 0).length ≤ 1000 := hp1.len
          refine ⟨by omega, fun x hx => ?_⟩
          obtain ⟨j, hj⟩ := List.mem_iff_getElem?.1 hp3
          obtain ⟨q1, q2, q3, aa, q4, q5⟩ := parts_at Strs.rightB ks 1 j p hg.ok.2.2.2.1 hj
          have hA : At N 1 (ks.flat 1) := by
            have h9 : At N 0 ((⟨c', t', true, ⟨#[]⟩, ks.tops 1⟩ : Nd) :: (ks.flat 1 ++ [])) := fun j x hx => by rw [Nat.zero_add, hg.flat]; exact hx
            rw [List.append_nil] at h9
            exact At.tail h9
          have hsf := sub_flat (q5 N hA)
          rw [← hsf] at hx
          unfold subN at hx
          obtain ⟨y, hy, rfl⟩ := List.mem_map.1 hx
          have := hd y (List.mem_of_mem_take (List.mem_of_mem_drop hy))
          show y.d.size ≤ 100000
          omega
        obtain ⟨D, -, hD, c3, -⟩ := dep_t N hs
        have hDe : D = max (ks.deep + 1) 0 := hD _ hg
        refine core_cons N x0 hx0 (by rw [hxe]) w _ hT c0 c1 Ns (by rw [hnl]; have := hk x0 (List.mem_iff_getElem?.2 ⟨0, hx0⟩); omega) hkids D c3 (fun M hM => ?_) (fun w P hP => ?_) d1
        · obtain ⟨p, hp1, hp2, -, -⟩ := hpart M hM
          have h9 := rig_rd M (hsmP M hM)
          rw [is_right hp1] at h9
          obtain ⟨dd, -, hdd, c9, -⟩ := dep_t M (hsmP M hM)
          exact ⟨h9, dd, by have := hdd _ hp1; omega, c9⟩
        · have hof : ofN (c' : Int) (t' : Int) Ns = N := by
            rw [hNs2, ofN_flat c' t' (parts ks) (fun p hp1 => by
              obtain ⟨j, hj⟩ := List.mem_iff_getElem?.1 hp1
              exact (parts_at Strs.rightB ks 1 j p hg.ok.2.2.2.1 hj).1), join_parts]
            exact hg.flat.symm
          have hpre : ∀ a, ∃ ks' : F, (Ns.take a).foldl stepN [(⟨(c' : Int), (t' : Int), true, ⟨#[]⟩, []⟩ : Nd)] = (F.cons c' t' ks' .nil).flat 0 ∧ ks'.cnt ≤ 1000 := by
            intro a
            refine ⟨join ((parts ks).take a), ?_, ?_⟩
            · rw [hNs2, ← List.map_take]
              exact ofN_flat c' t' ((parts ks).take a) (fun p hp1 => by
                obtain ⟨j, hj⟩ := List.mem_iff_getElem?.1 (List.mem_of_mem_take hp1)
                exact (parts_at Strs.rightB ks 1 j p hg.ok.2.2.2.1 hj).1)
            · have key : ∀ (l m : List F), (join (l ++ m)).cnt = (join l).cnt + (join m).cnt := by
                intro l m
                induction l with
                | nil => exact (Nat.zero_add _).symm
                | cons f l ih =>
                  show (f.app (join (l ++ m))).cnt = (f.app (join l)).cnt + (join m).cnt
                  rw [F.cnt_app, F.cnt_app, ih]
                  omega
              have h9 := key ((parts ks).take a) ((parts ks).drop a)
              rw [List.take_append_drop, join_parts] at h9
              have h8 := hg.len
              rw [hg.flat, F.flat_len] at h8
              have h7 : 1 + ks.cnt + 0 ≤ 1000 := h8
              omega
          have h9 := of_mk (c' : Int) (t' : Int) Ns (fun M hM => by
            obtain ⟨p, hp1, -, -, -⟩ := hpart M hM
            exact fair_of hp1) (by rw [hnl]; have := hk x0 (List.mem_iff_getElem?.2 ⟨0, hx0⟩); omega) (fun a => ?_) (fun a x hx => ?_) w P hP
          · rw [hof] at h9
            rw [hxe]
            exact h9
          · obtain ⟨ks', e1, e2⟩ := hpre a
            rw [e1, F.flat_len]
            show 1 + ks'.cnt + 0 ≤ 10000
            omega
          · obtain ⟨ks', e1, e2⟩ := hpre a
            rw [e1] at hx
            exact kids_len (F.cons c' t' ks' .nil) (by show 1 + ks'.cnt + 0 ≤ 2000; omega) x hx

set_option maxRecDepth 100000 in
theorem own : ownKnob Try.prog.godebug = none := by kernel_rfl
set_option maxRecDepth 100000 in
theorem laidOut : laidOutB Try.prog = true := by kernel_rfl

set_option maxRecDepth 100000 in
theorem lifted (os : Os) (started : os.Started) (H : Type) (enc : TypeId × Value → H) :
    ReturnsInHanded {} Try.checked os 5 .any (Rows.treeAgainSpec.pre6 enc Try.prog Try.f5 Rows.treeAgainRow.domain false) (Rows.treeAgainSpec.post enc Try.prog Try.f5 false true false false) := by
  refine returnsInHanded_of_change (C := Try.checked) own started (by kernel_rfl) Try.func5
    (ChangeSpec.witness6 (enc := enc) (C := Try.checked) false ⟨#[], #[.slice none 0 0], []⟩ 8 (by kernel_rfl) (by kernel_rfl) (by kernel_rfl) (by kernel_rfl)) ?_
  intro W base args ds gs before hval0 hW hcnd _
  have hval : ∀ (j : Nat) t v, Try.f5.params[j]? = some t → args[j]? = some v → Value.okWide Try.prog W .any base t v := hval0
  have hW' := hW
  obtain ⟨p, q, hA0, hV, rfl, hfz, hnd⟩ := hW
  have hA : DataW.TrodAll enc Try.prog W 0 (fun _ => true) true Try.f5.params.toList args.toList ds p := hA0
  rw [Try.params5] at hA hval
  obtain ⟨v0, vs0, d0, ds0, p0, q0, hargs, rfl, rfl, h0, r0⟩ := trodAll_cons hA
  obtain ⟨rfl, rfl, rfl⟩ := trodAll_nil r0
  obtain rfl : args = #[v0] := by cases args; simp_all
  obtain ⟨rfl, rfl⟩ := trodVars_none hV
  obtain ⟨a0, n0, c0, rfl⟩ := okWide_slice Try.underlying23 (hval 0 23 v0 rfl rfl)
  have h0k := h0
  obtain ⟨fuel0, hf0⟩ := h0
  have hlt0 : ∀ x ∈ p0, x.block < W.heap.size := fun x hx => by simpa using hW'.lt x (by simp [hx])
  obtain ⟨x0, lA0, lN0, lX0⟩ := tree_arg hf0 hlt0
  clear hA0 hval0
  simp only [List.append_nil] at hW'
  refine (walk W a0 n0 c0 x0 lA0 lN0 lX0).mono fun e W' ⟨he, hg⟩ => ?_
  subst he
  exact ⟨_, rfl, _, _, _, _, _, [], hW', (trodAll_cons_mk (shut_bool Try.underlying4 _) trodAll_mk0), (trodAll_cons_mk (Below.trod laidOut (by kernel_rfl) (of_decide_eq_true (by kernel_rfl)) h0k hg hlt0) trodAll_mk0), rfl, hg.frame _, fun h => by cases h⟩

set_option maxRecDepth 100000 in
theorem over : Rows.treeAgainRow.holds Try.pinned (OpenSpec.ofChange Rows.treeAgainSpec) :=
  OpenClaim.holds_of_wide 5 Try.f5 rfl rfl rfl rfl rfl rfl rfl ⟨rfl, rfl, rfl, rfl, rfl⟩ rfl rfl rfl rfl rfl (by kernel_rfl) Try.func5 (by kernel_rfl)
    (of_decide_eq_true (by kernel_rfl)) (by unfold Func.isWrapper; first | (rw [if_pos (by decide +kernel)]; kernel_rfl) | (rw [if_neg (by decide +kernel)]; exact ⟨rfl, rfl⟩))
    (fun os started H enc _ => lifted os started H enc)

theorem proved : Rows.TreeAgainSaid :=
  over

end Go.Proofs.Ytjpjfdmcijleoaa.treeAgain
