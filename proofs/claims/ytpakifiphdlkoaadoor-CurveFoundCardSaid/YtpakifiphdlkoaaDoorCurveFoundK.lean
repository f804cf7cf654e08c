/- The law CurveFound: a curve is found by its arcs and its width; 0 and its order are no scalars, 1 and the order less 1 are; no conditions. -/
import Derived.Test.YtpakifiphdlkoaaDoorRows
import Derived.WalkKit
import Derived.ProofKit
import Derived.OpenShut
import Derived.Lib.Hide
import Derived.Lay
import Derived.SevenTiedAt
import Derived.LaidOnce
import Derived.LaidMore
import Derived.Stop.Joined
import Derived.Test.YtpakifiphdlkoaaDoorTie
import Derived.Test.YtpakifiphdlkoaaDoorCards
import Derived.Test.YtpakifiphdlkoaaDoorCv13
import Derived.Test.YtpakifiphdlkoaaDoorCv23
import Derived.Test.YtpakifiphdlkoaaDoorCw3
namespace Go.Proofs.YtpakifiphdlkoaaDoor.curveFound
open Go.ChangeShapes Go.WideShapes Go.ChangeAt Go.RowKit
open Curve

set_option maxRecDepth 100000 in
set_option maxHeartbeats 4000000 in
theorem core_none (w : World) (hT : Tabs w) (no : Int) (c1 : KMk Tabs 17 #[.int .i64 no] (.int .i64 0)) (c2 : KMk Tabs 15 #[.int .i64 no] (.string ⟨#[]⟩)) (c3 : KMkI Tabs 20 #[.int .i64 no] []) (c4 : KMk Tabs 22 #[.int .i64 no] (.string ⟨#[]⟩)) :
    Calls Tryd.prog 4 #[.int .i64 no] w fun x w' => x = .returned (.bool true) ∧ Since w w' := by
  have HS := Lib.hid (Since.refl w)
  have HT := Lib.hid hT
  have cA := awake_k
  clear hT
  go_enter Tryd.func4, Tryd.ntmps4
  go_wp2_with fail
  refine (c1.calls0 HT.out) ?_
  intro w1 h1
  replace HT := Lib.hid (HT.out.since (by first | exact h1 | exact (Since.alloc (Since.refl _) _).step h1 | exact (Since.alloc (Since.alloc (Since.refl _) _) _).step h1 | exact (Since.drew (Since.refl _)).step h1 | exact (Since.alloc (Since.alloc (Since.alloc (Since.refl _) _) _) _).step h1))
  replace HS := Lib.hid (HS.out.step (by first | exact h1 | exact (Since.alloc (Since.refl _) _).step h1 | exact (Since.alloc (Since.alloc (Since.refl _) _) _).step h1 | exact (Since.drew (Since.refl _)).step h1 | exact (Since.alloc (Since.alloc (Since.alloc (Since.refl _) _) _) _).step h1))
  clear h1
  go_wp2_with fail
  refine (c2.calls0 HT.out) ?_
  intro w2 h2
  replace HT := Lib.hid (HT.out.since (by first | exact h2 | exact (Since.alloc (Since.refl _) _).step h2 | exact (Since.alloc (Since.alloc (Since.refl _) _) _).step h2 | exact (Since.drew (Since.refl _)).step h2 | exact (Since.alloc (Since.alloc (Since.alloc (Since.refl _) _) _) _).step h2))
  replace HS := Lib.hid (HS.out.step (by first | exact h2 | exact (Since.alloc (Since.refl _) _).step h2 | exact (Since.alloc (Since.alloc (Since.refl _) _) _).step h2 | exact (Since.drew (Since.refl _)).step h2 | exact (Since.alloc (Since.alloc (Since.alloc (Since.refl _) _) _) _).step h2))
  clear h2
  go_wp2_with fail
  refine (c3.calls0 HT.out) ?_
  intro v w3 hv h3
  replace HT := Lib.hid (HT.out.since h3)
  replace HS := Lib.hid (HS.out.step h3)
  clear h3
  obtain ⟨A, c, rfl, _, _⟩ := hv.slice
  clear hv
  go_wp2_with fail
  refine (c4.calls0 HT.out) ?_
  intro w4 h4
  replace HT := Lib.hid (HT.out.since (by first | exact h4 | exact (Since.alloc (Since.refl _) _).step h4 | exact (Since.alloc (Since.alloc (Since.refl _) _) _).step h4 | exact (Since.drew (Since.refl _)).step h4 | exact (Since.alloc (Since.alloc (Since.alloc (Since.refl _) _) _) _).step h4))
  replace HS := Lib.hid (HS.out.step (by first | exact h4 | exact (Since.alloc (Since.refl _) _).step h4 | exact (Since.alloc (Since.alloc (Since.refl _) _) _).step h4 | exact (Since.drew (Since.refl _)).step h4 | exact (Since.alloc (Since.alloc (Since.alloc (Since.refl _) _) _) _).step h4))
  clear h4
  go_wp2_with fail
  refine (cA.calls0 HT.out) ?_
  intro w5 h5
  replace HS := Lib.hid (HS.out.step (by first | exact h5 | exact (Since.alloc (Since.refl _) _).step h5 | exact (Since.alloc (Since.alloc (Since.refl _) _) _).step h5 | exact (Since.drew (Since.refl _)).step h5 | exact (Since.alloc (Since.alloc (Since.alloc (Since.refl _) _) _) _).step h5))
  clear h5
  go_wp2_with fail
  go_ret
  exact ⟨rfl, HS.out⟩

def zs (k : Nat) : List UInt8 := List.replicate k 0
def zc (k : Nat) : List Value := (zs k).map fun c => Value.int .u8 (c.toNat : Int)
theorem zc_succ (k : Nat) : zc k ++ [Value.int .u8 0] = zc (k + 1) := by
  unfold zc zs
  rw [List.replicate_succ', List.map_append]; rfl
set_option maxRecDepth 100000 in
set_option maxHeartbeats 8000000 in
theorem core (w : World) (hT : Tabs w) (no : Int) (O Z1 Z2 Z3 : ByteArray) (p : Nat) (hO : O.size = p + 1) (hp : p ≤ 100) (xs : List Int) (x y : UInt8) (hx : O.data.toList.getD p 0 = x) (hy : IntKind.u8.wrap ((x.toNat : Int) - 1) = (y.toNat : Int))
    (h1 : Z1 = bs (zs O.size)) (h2 : Z2 = bs (zs p ++ [1])) (h3 : Z3 = bs (O.data.toList.take p ++ [y]))
    (c1 : KMk Tabs 17 #[.int .i64 no] (.int .i64 (O.size : Int))) (c2 : KMkI Tabs 20 #[.int .i64 no] xs) (c3 : KRdI Tabs 11 xs (.tuple #[.int .i64 no, .bool true])) (c4 : KMk Tabs 13 #[.int .i64 (O.size : Int)] (.tuple #[.int .i64 no, .bool true])) (c5 : KMk Tabs 22 #[.int .i64 no] (.string O))
    (c6 : KMk Tabs 24 #[.int .i64 no, .string Z1] (.bool false)) (c7 : KMk Tabs 24 #[.int .i64 no, .string Z2] (.bool true)) (c8 : KMk Tabs 24 #[.int .i64 no, .string Z3] (.bool true)) (c9 : KMk Tabs 24 #[.int .i64 no, .string O] (.bool false)) :
    Calls Tryd.prog 4 #[.int .i64 no] w fun x w' => x = .returned (.bool true) ∧ Since w w' := by
  have HS := Lib.hid (Since.refl w)
  have HT := Lib.hid hT
  have cA := awake_k
  have t1 : decide ((O.size : Int) < 1) = false := decide_eq_false (by omega)
  have hO9 : O.size ≤ 101 := by omega
  have e1 : IntKind.i64.wrap ((O.size : Int) - 1) = (p : Int) := by rw [IntWalk.i64_in _ (by omega)]; omega
  have hpl : p < O.size := by omega
  have HO := Lib.hid hO
  have HX := Lib.hid hx
  have HY := Lib.hid hy
  have H_1 := Lib.hid h1
  have H_2 := Lib.hid h2
  have H_3 := Lib.hid h3
  clear hT hO hx hy h1 h2 h3
  go_enter Tryd.func4, Tryd.ntmps4
  go_wp2_with fail
  refine (c1.calls0 HT.out) ?_
  intro w1 h1
  replace HT := Lib.hid (HT.out.since (by first | exact h1 | exact (Since.alloc (Since.refl _) _).step h1 | exact (Since.alloc (Since.alloc (Since.refl _) _) _).step h1 | exact (Since.drew (Since.refl _)).step h1 | exact (Since.alloc (Since.alloc (Since.alloc (Since.refl _) _) _) _).step h1))
  replace HS := Lib.hid (HS.out.step (by first | exact h1 | exact (Since.alloc (Since.refl _) _).step h1 | exact (Since.alloc (Since.alloc (Since.refl _) _) _).step h1 | exact (Since.drew (Since.refl _)).step h1 | exact (Since.alloc (Since.alloc (Since.alloc (Since.refl _) _) _) _).step h1))
  clear h1
  go_wp2_with fail
  refine (c2.calls0 HT.out) ?_
  intro v2 w2 hv2 h2
  have HV2 := Lib.hid hv2
  clear hv2
  replace HT := Lib.hid (HT.out.since (by first | exact h2 | exact (Since.alloc (Since.refl _) _).step h2 | exact (Since.alloc (Since.alloc (Since.refl _) _) _).step h2 | exact (Since.drew (Since.refl _)).step h2 | exact (Since.alloc (Since.alloc (Since.alloc (Since.refl _) _) _) _).step h2))
  replace HS := Lib.hid (HS.out.step (by first | exact h2 | exact (Since.alloc (Since.refl _) _).step h2 | exact (Since.alloc (Since.alloc (Since.refl _) _) _).step h2 | exact (Since.drew (Since.refl _)).step h2 | exact (Since.alloc (Since.alloc (Since.alloc (Since.refl _) _) _) _).step h2))
  clear h2
  go_wp2_with fail
  refine (c3.calls0 HV2.out HT.out) ?_
  intro w3 h3
  replace HT := Lib.hid (HT.out.since (by first | exact h3 | exact (Since.alloc (Since.refl _) _).step h3 | exact (Since.alloc (Since.alloc (Since.refl _) _) _).step h3 | exact (Since.drew (Since.refl _)).step h3 | exact (Since.alloc (Since.alloc (Since.alloc (Since.refl _) _) _) _).step h3))
  replace HS := Lib.hid (HS.out.step (by first | exact h3 | exact (Since.alloc (Since.refl _) _).step h3 | exact (Since.alloc (Since.alloc (Since.refl _) _) _).step h3 | exact (Since.drew (Since.refl _)).step h3 | exact (Since.alloc (Since.alloc (Since.alloc (Since.refl _) _) _) _).step h3))
  clear h3
  go_wp2_with fail
  refine (c4.calls0 HT.out) ?_
  intro w4 h4
  replace HT := Lib.hid (HT.out.since (by first | exact h4 | exact (Since.alloc (Since.refl _) _).step h4 | exact (Since.alloc (Since.alloc (Since.refl _) _) _).step h4 | exact (Since.drew (Since.refl _)).step h4 | exact (Since.alloc (Since.alloc (Since.alloc (Since.refl _) _) _) _).step h4))
  replace HS := Lib.hid (HS.out.step (by first | exact h4 | exact (Since.alloc (Since.refl _) _).step h4 | exact (Since.alloc (Since.alloc (Since.refl _) _) _).step h4 | exact (Since.drew (Since.refl _)).step h4 | exact (Since.alloc (Since.alloc (Since.alloc (Since.refl _) _) _) _).step h4))
  clear h4
  go_wp2_with fail
  refine (c5.calls0 HT.out) ?_
  intro w5 h5
  replace HT := Lib.hid (HT.out.since (by first | exact h5 | exact (Since.alloc (Since.refl _) _).step h5 | exact (Since.alloc (Since.alloc (Since.refl _) _) _).step h5 | exact (Since.drew (Since.refl _)).step h5 | exact (Since.alloc (Since.alloc (Since.alloc (Since.refl _) _) _) _).step h5))
  replace HS := Lib.hid (HS.out.step (by first | exact h5 | exact (Since.alloc (Since.refl _) _).step h5 | exact (Since.alloc (Since.alloc (Since.refl _) _) _).step h5 | exact (Since.drew (Since.refl _)).step h5 | exact (Since.alloc (Since.alloc (Since.alloc (Since.refl _) _) _) _).step h5))
  clear h5
  go_wp2_with fail
  go_loopw [9, 10, 11] (fun a b i wr => ∃ k : Nat, k ≤ O.size ∧ i = .int .i64 (k : Int) ∧ Hid (wr.ownsRow w5.heap.size 5 1 a k (zc k)) ∧ Hid (wr.ownsRow w5.heap.size 5 1 b k (zc k)) ∧ Hid (Apart a b) ∧ Hid (Since w5 wr)) (fun _ _ i _ => O.size - (intOf i).toNat)
  case atStart => exact ⟨0, by omega, rfl, Lib.hid ⟨rfl, Or.inl ⟨rfl, rfl⟩⟩, Lib.hid ⟨rfl, Or.inl ⟨rfl, rfl⟩⟩, Lib.hid (fun g h => by cases h), Lib.hid (Since.refl _)⟩
  case round =>
    obtain ⟨k, hk, rfl, HA, HB, HAP, HS5⟩ := hrel
    by_cases hlt : k < O.size
    · go_wp2_with (at_builtin; refine app_one_d elem8 rfl _ _ (by rfl) w5 wr u9 k _ (by rfl) HA.out HS5.out _ (by rfl) rfl (by omega) (by decide) ?_)
      intro va' wa hoa hsa hka
      obtain ⟨hob, hap⟩ := hka u10 k _ HB.out HAP.out
      have HA2 := Lib.hid hoa
      have HB2 := Lib.hid hob
      have HAP2 := Lib.hid hap
      have HSA := Lib.hid hsa
      clear hoa hob hap hsa hka HA HB HAP
      go_wp2_with (at_builtin; refine app_one_d elem8 rfl _ _ (by rfl) w5 wa u10 k _ (by rfl) HB2.out HSA.out _ (by rfl) rfl (by omega) (by decide) ?_)
      intro vb' wb hob hsb hkb
      obtain ⟨hoa, hap⟩ := hkb va' (k + 1) _ HA2.out (Apart.symm HAP2.out)
      rw [zc_succ] at hoa hob
      have HA3 := Lib.hid hoa
      have HB3 := Lib.hid hob
      have HAP3 := Lib.hid (Apart.symm hap)
      have HSB := Lib.hid hsb
      clear hoa hob hap hsb hkb HA2 HB2 HAP2 HSA
      go_wp2_with fail
      go_roundw
      case rel => exact ⟨k + 1, by omega, by go_num, HA3, HB3, HAP3, HSB⟩
      case measure => simp [intOf]; omega
    · obtain rfl : k = O.size := by omega
      obtain ⟨g0, d0, rfl, hg0, hc0⟩ := own_cel HA.out (by omega) (by unfold zs; simp)
      obtain ⟨g1, d1, rfl, hg1, hc1⟩ := own_cel HB.out (by omega) (by unfold zs; simp)
      have hne : g0 ≠ g1 := fun h => HAP.out g0 rfl (by rw [h]; rfl)
      have m1 := hc1.cell p hpl
      have f1 := hc1.free p hpl
      obtain ⟨u1, hu1⟩ : ∃ u, u = Oct.rowF (zs O.size) p := ⟨_, rfl⟩
      rw [← hu1] at m1
      obtain ⟨ws, hws⟩ : ∃ ws, ws = wr.setCell ⟨g1, p, none⟩ (.int .u8 1) := ⟨_, rfl⟩
      have hcs0 : Cel ws g0 O.size (Oct.rowF (zs O.size)) := by rw [hws]; exact hc0.other g1 p hne _
      have hcs1 : Cel ws g1 O.size (Oct.rowF (zs p ++ [1])) := by
        rw [hws]
        refine (hc1.set p hpl (.int .u8 1)).congr fun i hi => ?_
        have hpo := HO.out
        unfold Oct.rowF zs
        by_cases hip : i = p
        · subst hip; simp
        · rw [if_neg hip, if_pos (by simp; exact hi), if_pos (by simp; omega)]
          simp [List.getD, List.getElem?_append, hi, show i < p by omega]
      have HC0 := Lib.hid hcs0
      have HC1 := Lib.hid hcs1
      have HSS := Lib.hid (show Since w5 ws by rw [hws]; exact Below.setCell HS5.out (p := ⟨g1, p, none⟩) hg1 _)
      have HWS := Lib.hid hws
      obtain ⟨cap, w6, hcv, hcap, hcel, hb6⟩ := run_bytes_cel ws O
      have m2 := hcel.cell p hpl
      have f2 := hcel.free p hpl
      have hrx : Oct.rowF O.data.toList p = .int .u8 (x.toNat : Int) := by
        unfold Oct.rowF
        rw [if_pos (show p < O.data.toList.length from hpl), HX.out]
      rw [hrx] at m2
      obtain ⟨g2, hg2⟩ : ∃ g, g = ws.heap.size := ⟨_, rfl⟩
      rw [← hg2] at m2 f2 hcv
      rw [hws] at hcv
      have HCV := Lib.hid hcv
      have hl0 := hcs0.lt
      have hl1 := hcs1.lt
      obtain ⟨w7, hw7⟩ : ∃ w7, w7 = w6.setCell ⟨g2, p, none⟩ (.int .u8 (y.toNat : Int)) := ⟨_, rfl⟩
      have hd0 : Cel w7 g0 O.size (Oct.rowF (zs O.size)) := by rw [hw7]; exact (hcs0.below hb6).other g2 p (by omega) _
      have hd1 : Cel w7 g1 O.size (Oct.rowF (zs p ++ [1])) := by rw [hw7]; exact (hcs1.below hb6).other g2 p (by omega) _
      have hd2 : Cel w7 g2 O.size (Oct.rowF (O.data.toList.take p ++ [y])) := by
        rw [hw7]
        rw [← hg2] at hcel
        refine (hcel.set p hpl _).congr fun i hi => ?_
        have hpo := HO.out
        have hol : O.data.toList.length = O.size := rfl
        unfold Oct.rowF
        by_cases hip : i = p
        · subst hip
          rw [if_pos rfl, if_pos (by simp; omega)]
          simp [List.getD, show min i O.size = i by omega]
        · rw [if_neg hip, if_pos (by omega), if_pos (by simp; omega)]
          simp [List.getD, List.getElem?_append, show min p O.size = p by omega, show i < p by omega]
          rw [Array.getElem?_eq_getElem (show i < O.data.size from hi)]; rfl
      have hs7 : Since w5 w7 := by rw [hw7]; exact Below.setCell (Since.step HSS.out hb6) (p := ⟨g2, p, none⟩) (by have := Below.size HSS.out; show w5.heap.size ≤ g2; omega) _
      have HD0 := Lib.hid hd0
      have HD1 := Lib.hid hd1
      have HD2 := Lib.hid hd2
      have HT7 := Lib.hid (HT.out.since hs7)
      have HS7 := Lib.hid (HS.out.step hs7)
      have HW7 := Lib.hid hw7
      have hzl1 : (zs O.size).length = O.size := by unfold zs; simp
      have hzl2 : (zs p ++ [1]).length = O.size := by have := HO.out; unfold zs; simp; omega
      have hzl3 : (O.data.toList.take p ++ [y]).length = O.size := by have := HO.out; have hol : O.data.toList.length = O.size := rfl; simp; omega
      have hcv1 := str_cel w7 g0 O.size d0 _ hd0 hzl1 Z1 H_1.out
      have HK1 := Lib.hid (fun W (h : Cel W g1 O.size (Oct.rowF (zs p ++ [1]))) => str_cel W g1 O.size d1 _ h hzl2 Z2 H_2.out)
      have HK2 := Lib.hid (fun W (h : Cel W g2 O.size (Oct.rowF (O.data.toList.take p ++ [y]))) => str_cel W g2 O.size cap _ h hzl3 Z3 H_3.out)
      have e2 := HY.out
      rw [hw7] at hcv1
      have HCV1 := Lib.hid hcv1
      clear hc0 hc1 hu1 hcs0 hcs1 hws hcv hcel hb6 hrx hg2 hl0 hl1 hw7 hd0 hd1 hd2 hs7 hzl1 hzl2 hzl3 HA HB HAP hcap hne hg0 hg1 HX HT HS HSS HC0 HC1
      go_wp2_with ((with_reducible refine wpList_conv_at (some 85) 9 33 (.tmp 84) _ _ w6 ?_ HCV.out ?_) <;> try rfl)
      rw [← HW7.out]
      refine c6.calls0 HT7.out ?_
      intro w8 h8
      have hcv2 := HK1.out w8 (HD1.out.below h8)
      have HD28 := Lib.hid (HD2.out.below h8)
      have HT8 := Lib.hid (HT7.out.since h8)
      have HS8 := Lib.hid (HS7.out.step h8)
      clear h8 hcv1
      go_wp2_with fail
      refine c7.calls0 HT8.out ?_
      intro w9 h9
      have hcv3 := HK2.out w9 (HD28.out.below h9)
      have HT9 := Lib.hid (HT8.out.since h9)
      have HS9 := Lib.hid (HS8.out.step h9)
      clear h9 hcv2
      go_wp2_with fail
      refine c8.calls0 HT9.out ?_
      intro w10 h10
      have HT10 := Lib.hid (HT9.out.since h10)
      have HS10 := Lib.hid (HS9.out.step h10)
      clear h10 hcv3
      go_wp2_with fail
      refine c9.calls0 HT10.out ?_
      intro w11 h11
      have HT11 := Lib.hid (HT10.out.since h11)
      have HS11 := Lib.hid (HS10.out.step h11)
      clear h11
      go_wp2_with fail
      refine cA.calls0 HT11.out ?_
      intro w12 h12
      have HS12 := Lib.hid (HS11.out.step h12)
      clear h12
      go_wp2_with fail
      go_ret
      exact ⟨rfl, HS12.out⟩
theorem all4 : rows = [rowOf 1, rowOf 2, rowOf 3, rowOf 4] := rfl
theorem found_1 : ((1 : Int), true) = arcsF (arcsL (rowOf 1)) := by
  unfold arcsF
  rw [all4]
  simp only [fndL, arcs_1.2, arcs_2.2, arcs_3.2, arcs_4.2]
  decide
theorem found_2 : ((2 : Int), true) = arcsF (arcsL (rowOf 2)) := by
  unfold arcsF
  rw [all4]
  simp only [fndL, arcs_1.2, arcs_2.2, arcs_3.2, arcs_4.2]
  decide
theorem found_3 : ((3 : Int), true) = arcsF (arcsL (rowOf 3)) := by
  unfold arcsF
  rw [all4]
  simp only [fndL, arcs_1.2, arcs_2.2, arcs_3.2, arcs_4.2]
  decide
theorem found_4 : ((4 : Int), true) = arcsF (arcsL (rowOf 4)) := by
  unfold arcsF
  rw [all4]
  simp only [fndL, arcs_1.2, arcs_2.2, arcs_3.2, arcs_4.2]
  decide
set_option maxRecDepth 100000 in
theorem row_1 (w : World) (hT : Tabs w) : Calls Tryd.prog 4 #[.int .i64 1] w fun x w' => x = .returned (.bool true) ∧ Since w w' := by
  have hs : (ordS (rowOf 1)).size = 27 + 1 := by decide +kernel
  have hl1 : (bs (zs (ordS (rowOf 1)).size)).size ≤ 140737488355328 := by rw [hs]; decide +kernel
  have hl2 : (bs (zs 27 ++ [1])).size ≤ 140737488355328 := by decide +kernel
  have hl3 : (bs ((ordS (rowOf 1)).data.toList.take 27 ++ [(ordS (rowOf 1)).data.toList.getD 27 0 - 1])).size ≤ 140737488355328 := by decide +kernel
  refine core w hT 1 (ordS (rowOf 1)) _ _ _ 27 hs (by decide) (arcsL (rowOf 1)) ((ordS (rowOf 1)).data.toList.getD 27 0) ((ordS (rowOf 1)).data.toList.getD 27 0 - 1) rfl (by decide +kernel) rfl rfl rfl
    (width_k 1 _ (by decide +kernel)) (arcs_k 1 _ rfl) (by_rd _ 1 true ?_) (of_k _ 1 true (by decide +kernel)) (order_k 1 _ rfl)
    (scalar_k 1 _ hl1 false (by decide +kernel)) (scalar_k 1 _ hl2 true (by decide +kernel)) (scalar_k 1 _ hl3 true (by decide +kernel)) (scalar_k 1 _ (by rw [hs]; decide) false (by decide +kernel))
  exact found_1
set_option maxRecDepth 100000 in
theorem row_2 (w : World) (hT : Tabs w) : Calls Tryd.prog 4 #[.int .i64 2] w fun x w' => x = .returned (.bool true) ∧ Since w w' := by
  have hs : (ordS (rowOf 2)).size = 31 + 1 := by decide +kernel
  have hl1 : (bs (zs (ordS (rowOf 2)).size)).size ≤ 140737488355328 := by rw [hs]; decide +kernel
  have hl2 : (bs (zs 31 ++ [1])).size ≤ 140737488355328 := by decide +kernel
  have hl3 : (bs ((ordS (rowOf 2)).data.toList.take 31 ++ [(ordS (rowOf 2)).data.toList.getD 31 0 - 1])).size ≤ 140737488355328 := by decide +kernel
  refine core w hT 2 (ordS (rowOf 2)) _ _ _ 31 hs (by decide) (arcsL (rowOf 2)) ((ordS (rowOf 2)).data.toList.getD 31 0) ((ordS (rowOf 2)).data.toList.getD 31 0 - 1) rfl (by decide +kernel) rfl rfl rfl
    (width_k 2 _ (by decide +kernel)) (arcs_k 2 _ rfl) (by_rd _ 2 true ?_) (of_k _ 2 true (by decide +kernel)) (order_k 2 _ rfl)
    (scalar_k 2 _ hl1 false (by decide +kernel)) (scalar_k 2 _ hl2 true (by decide +kernel)) (scalar_k 2 _ hl3 true (by decide +kernel)) (scalar_k 2 _ (by rw [hs]; decide) false (by decide +kernel))
  exact found_2
set_option maxRecDepth 100000 in
theorem row_3 (w : World) (hT : Tabs w) : Calls Tryd.prog 4 #[.int .i64 3] w fun x w' => x = .returned (.bool true) ∧ Since w w' := by
  have hs : (ordS (rowOf 3)).size = 47 + 1 := by decide +kernel
  have hl1 : (bs (zs (ordS (rowOf 3)).size)).size ≤ 140737488355328 := by rw [hs]; decide +kernel
  have hl2 : (bs (zs 47 ++ [1])).size ≤ 140737488355328 := by decide +kernel
  have hl3 : (bs ((ordS (rowOf 3)).data.toList.take 47 ++ [(ordS (rowOf 3)).data.toList.getD 47 0 - 1])).size ≤ 140737488355328 := by decide +kernel
  refine core w hT 3 (ordS (rowOf 3)) _ _ _ 47 hs (by decide) (arcsL (rowOf 3)) ((ordS (rowOf 3)).data.toList.getD 47 0) ((ordS (rowOf 3)).data.toList.getD 47 0 - 1) rfl (by decide +kernel) rfl rfl rfl
    (width_k 3 _ (by decide +kernel)) (arcs_k 3 _ rfl) (by_rd _ 3 true ?_) (of_k _ 3 true (by decide +kernel)) (order_k 3 _ rfl)
    (scalar_k 3 _ hl1 false (by decide +kernel)) (scalar_k 3 _ hl2 true (by decide +kernel)) (scalar_k 3 _ hl3 true (by decide +kernel)) (scalar_k 3 _ (by rw [hs]; decide) false (by decide +kernel))
  exact found_3
set_option maxRecDepth 100000 in
theorem row_4 (w : World) (hT : Tabs w) : Calls Tryd.prog 4 #[.int .i64 4] w fun x w' => x = .returned (.bool true) ∧ Since w w' := by
  have hs : (ordS (rowOf 4)).size = 65 + 1 := by decide +kernel
  have hl1 : (bs (zs (ordS (rowOf 4)).size)).size ≤ 140737488355328 := by rw [hs]; decide +kernel
  have hl2 : (bs (zs 65 ++ [1])).size ≤ 140737488355328 := by decide +kernel
  have hl3 : (bs ((ordS (rowOf 4)).data.toList.take 65 ++ [(ordS (rowOf 4)).data.toList.getD 65 0 - 1])).size ≤ 140737488355328 := by decide +kernel
  refine core w hT 4 (ordS (rowOf 4)) _ _ _ 65 hs (by decide) (arcsL (rowOf 4)) ((ordS (rowOf 4)).data.toList.getD 65 0) ((ordS (rowOf 4)).data.toList.getD 65 0 - 1) rfl (by decide +kernel) rfl rfl rfl
    (width_k 4 _ (by decide +kernel)) (arcs_k 4 _ rfl) (by_rd _ 4 true ?_) (of_k _ 4 true (by decide +kernel)) (order_k 4 _ rfl)
    (scalar_k 4 _ hl1 false (by decide +kernel)) (scalar_k 4 _ hl2 true (by decide +kernel)) (scalar_k 4 _ hl3 true (by decide +kernel)) (scalar_k 4 _ (by rw [hs]; decide) false (by decide +kernel))
  exact found_4
set_option maxRecDepth 100000 in
theorem walk (no : Int) (_w0 : (Lit.int .i64 no).wf = true) (w : World) (hT : Tabs w) :
    Calls Tryd.prog 4 #[.int .i64 no] w fun e w' => e = .returned (.bool true) ∧ Below w.heap.size w w' := by
  rcases row_cases no with h | rfl | rfl | rfl | rfl
  · refine core_none w hT no (width_k no 0 (by rw [rowOf_out no h]; rfl)) (name_k no _ (by rw [rowOf_out no h]; rfl)) (arcs_k no [] (by rw [rowOf_out no h, arcs_0])) (order_k no _ (by rw [rowOf_out no h]; decide +kernel))
  · exact row_1 w hT
  · exact row_2 w hT
  · exact row_3 w hT
  · exact row_4 w hT

set_option maxRecDepth 100000 in
theorem own : ownKnob Tryd.prog.godebug = none := by kernel_rfl

def laidL : List (String × DataW Unit) := [("unicode/utf8.acceptRanges", Rows.laid_unicode_utf8_acceptRanges), ("claviger/curve.lines", Rows.laid_claviger_curve_lines), ("unicode/utf8.first", Rows.laid_unicode_utf8_first)]
set_option maxRecDepth 100000 in
theorem lifted (os : Os) (started : os.Started) (H : Type) (enc : TypeId × Value → H) :
    ReturnsInHanded {} Tryd.checked os 4 .any (fun w args => (Rows.curveFoundSpec.pre enc Tryd.prog Tryd.f4 [] false w args ∧ laidMetH Tryd.prog laidL w) ∧ sizedMet enc Tryd.prog Tryd.f4 (OpenSpec.ofChange Rows.curveFoundSpec) false w args)
      (Rows.curveFoundSpec.post enc Tryd.prog Tryd.f4 false true false false) := by
  refine returnsInHanded_of_change_and (C := Tryd.checked) (X := fun w _ => laidMetH Tryd.prog laidL w) (fun _ _ _ hh h => h.of_heap hh) own started (by kernel_rfl) Tryd.func4
    (ChangeSpec.witness_shaped (enc := enc) (C := Tryd.checked) (os := os) (X := fun w _ => laidMetH Tryd.prog laidL w) false (World.laidAll Tryd.prog os laidL) #[.int .i64 0] 8 (World.laidAll_os _ _ _) (World.shaped_of_ZipB (by kernel_rfl) (by kernel_rfl)) (by kernel_rfl) (by kernel_rfl) (by kernel_rfl) (by rw [MakeChecks.laidMetH_plain _ _ _ (by kernel_rfl)]; exact laidMet_laidAll _ (by kernel_rfl) (by kernel_rfl))) ?_
  intro W base args ds gs before hval0 hW _ _ hL _
  have hval : ∀ (j : Nat) t v, Tryd.f4.params[j]? = some t → args[j]? = some v → Value.okWide Tryd.prog W .any base t v := hval0
  have hW' := hW
  obtain ⟨p, q, hA0, hV, rfl, hfz, hnd⟩ := hW
  have hA : DataW.TrodAll enc Tryd.prog W 0 (fun _ => true) true Tryd.f4.params.toList args.toList ds p := hA0
  rw [Tryd.params4] at hA hval
  obtain ⟨v0, vs0, d0, ds0, p0, q0, hargs, rfl, rfl, h0, r0⟩ := trodAll_cons hA
  obtain ⟨rfl, rfl, rfl⟩ := trodAll_nil r0
  obtain rfl : args = #[v0] := by cases args; simp_all
  obtain ⟨rfl, rfl⟩ := trodVars_none hV
  obtain ⟨a0, rfl, rfl, rfl, w0⟩ := open_int Tryd.underlying3 (hval 0 3 v0 rfl rfl) h0
  clear hA0 hval0
  simp only [List.append_nil] at hW'
  refine (walk a0 w0 W (Curve.tabs3_of hL)).mono fun e W' ⟨he, hg⟩ => ?_
  subst he
  exact ⟨_, rfl, _, _, _, _, _, [], hW', (trodAll_cons_mk (shut_bool Tryd.underlying4 _) trodAll_mk0), (trodAll_cons_mk (shut_int Tryd.underlying3 w0) trodAll_mk0), rfl, hg.frame _, fun h => by cases h⟩

set_option maxRecDepth 100000 in
theorem over : Rows.curveFoundRow.holds Tryd.pinned (OpenSpec.ofChange Rows.curveFoundSpec) :=
  OpenClaim.holds_of_wide 4 Tryd.f4 rfl rfl rfl rfl rfl rfl rfl ⟨rfl, rfl, rfl, rfl, rfl⟩ rfl rfl rfl rfl rfl (by kernel_rfl) Tryd.func4 (by kernel_rfl)
    (of_decide_eq_true (by kernel_rfl)) (by unfold Func.isWrapper; first | (rw [if_pos (by decide +kernel)]; kernel_rfl) | (rw [if_neg (by decide +kernel)]; exact ⟨rfl, rfl⟩))
    (fun os started H enc _ => lifted os started H enc)

set_option maxRecDepth 100000 in
theorem proved : Rows.CurveFoundCardSaid :=
  Claim7.holds_tied_plain_at .later [] [.data, .data, .pinned] true Rows.curveFoundCard.stood.harness false
    over (fun _ h => by cases h) (by kernel_rfl) (fun _ h => by cases h) curveFound_row_tie rfl ⟨rfl, rfl⟩ (by kernel_rfl) rfl
    (fun f fn hf hfn => by
      obtain rfl : f = 4 := Option.some.inj ((show Tryd.prog.funcNamed "claviger/clavigerlaw22.CurveFound" = some 4 by kernel_rfl).symm.trans hf) |>.symm
      obtain rfl : fn = Tryd.f4 := (Option.some.inj (Tryd.func4.symm.trans hfn)).symm
      exact ⟨by kernel_rfl, fun j t ht => by
        rw [Tryd.params4] at ht
        have hm : t ∈ [3] := by simpa using Array.mem_of_getElem? ht
        have hall : ([3].all fun u => !Tryd.prog.wantsStandIn u) = true := by kernel_rfl
        exact (show Tryd.prog.wantsStandIn t = false by simpa using List.all_eq_true.1 hall t hm)⟩)
    (by kernel_rfl)

end Go.Proofs.YtpakifiphdlkoaaDoor.curveFound
