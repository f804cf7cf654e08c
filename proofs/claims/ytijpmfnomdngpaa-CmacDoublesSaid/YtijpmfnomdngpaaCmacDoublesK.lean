/- The law CmacDoubles: doubling goes over the exclusive or, and loses nothing; no conditions. -/
import Derived.Test.YtijpmfnomdngpaaRows
import Derived.WalkKit
import Derived.ProofKit
import Derived.OpenShut
import Derived.Lib.Hide
import Derived.Test.YtijpmfnomdngpaaPk34
import Derived.Test.YtijpmfnomdngpaaPk36
import Derived.Deep.RegionHeld3
namespace Go.Proofs.Ytijpmfnomdngpaa.cmacDoubles
open Go.ChangeShapes Go.WideShapes Go.ChangeAt Go.RowKit
open Aes Cmac Rnd

set_option maxRecDepth 100000 in
set_option maxHeartbeats 4000000 in
theorem core_a (a b : ByteArray) (ha : a.size ≠ 16) (w : World) :
    Calls Try.prog 10 #[.string a, .string b] w fun x w' => x = .returned (.bool true) ∧ Since w w' := by
  have H0 := Lib.hid (Since.refl w)
  have t1 : ((a.size : Int) == 16) = false := by rw [beq_eq_false_iff_ne]; omega
  have t2 : ((a.size : Int) != 16) = true := by rw [bne_iff_ne]; omega
  have c1 := double_no a ha
  clear ha
  go_enter Try.func10, Try.ntmps10
  go_wp2_with fail
  refine (c1).calls ?_
  go_wp2_with fail
  refine awake_mak.calls H0.out ?_
  intro w1 h1
  have H1 := Lib.hid h1
  clear h1
  go_wp2_with fail
  go_ret
  exact ⟨rfl, H1.out⟩
set_option maxRecDepth 100000 in
set_option maxHeartbeats 4000000 in
theorem core_b (a b : ByteArray) (ha : a.size = 16) (hb : b.size ≠ 16) (w : World) :
    Calls Try.prog 10 #[.string a, .string b] w fun x w' => x = .returned (.bool true) ∧ Since w w' := by
  have H0 := Lib.hid (Since.refl w)
  have t1 : ((a.size : Int) == 16) = true := by rw [beq_iff_eq]; omega
  have t2 : ((a.size : Int) != 16) = false := by rw [bne_eq_false_iff_eq]; omega
  have t3 : ((b.size : Int) == 16) = false := by rw [beq_eq_false_iff_ne]; omega
  have t4 : ((b.size : Int) != 16) = true := by rw [bne_iff_ne]; omega
  obtain ⟨X, hX⟩ : ∃ X, X = dblK a := ⟨_, rfl⟩
  have c1 := double_yes a ha X hX
  have hXs : X.size = 16 := by rw [hX, dblK_size]
  have hx1 := some_bytes X (by omega)
  have hx2 := some_bytes_f X (by omega)
  clear ha hb hX hXs
  go_enter Try.func10, Try.ntmps10
  go_wp2_with fail
  refine c1.calls H0.out ?_
  intro w1 h1
  have H1 := Lib.hid h1
  clear h1
  go_wp2_with fail
  refine awake_mak.calls H1.out ?_
  intro w2 h2
  have H2 := Lib.hid h2
  clear h2
  go_wp2_with fail
  go_ret
  exact ⟨rfl, H2.out⟩
structure PD (w : World) (l m : List UInt8) (W : World) : Prop where
  since : Since w W
  hl : l.length = 16
  hm : m.length = 16
  rl : W.rowIs w.heap.size 45 16 (fun p => .int .u8 ((ent l p : Nat) : Int))
  rm : W.rowIs (w.heap.size + 1) 45 16 (fun p => .int .u8 ((ent m p : Nat) : Int))
theorem pdstep {w W W' : World} {l m : List UInt8} (hb : Below W.heap.size W W') (h : Hid (PD w l m W)) : Hid (PD w l m W') :=
  Lib.hid ⟨Since.step h.out.since hb, h.out.hl, h.out.hm, h.out.rl.of_block (hb.block _ h.out.rl.lt), h.out.rm.of_block (hb.block _ h.out.rm.lt)⟩
theorem pddrew {w W : World} {l m : List UInt8} (h : Hid (PD w l m W)) : Hid (PD w l m W.drew) := pdstep (Below.drew (Below.refl _ _)) h
theorem pdS {w W : World} {l m : List UInt8} (h : Hid (PD w l m W)) {C D : ByteArray} (hC : Hid (C = bs l)) (hD : Hid (D = bs m)) : Hid (PD w l m W) ∧ (convert 46 9 (.slice (some ⟨w.heap.size, 0, none⟩) 16 16)).run Try.prog W = .ok (.string C) W ∧ (convert 46 9 (.slice (some ⟨w.heap.size + 1, 0, none⟩) 16 16)).run Try.prog W = .ok (.string D) W := by
  rw [hC.out, hD.out]
  exact ⟨h, conv_row W w.heap.size 45 16 _ _ h.out.rl h.out.hl (fun j _ => rfl), conv_row W (w.heap.size + 1) 45 16 _ _ h.out.rm h.out.hm (fun j _ => rfl)⟩
set_option maxRecDepth 100000 in
set_option maxHeartbeats 4000000 in
theorem core (a b : ByteArray) (ha : a.size = 16) (hb : b.size = 16) (w : World) :
    Calls Try.prog 10 #[.string a, .string b] w fun x w' => x = .returned (.bool true) ∧ Since w w' := by
  have t1 : ((a.size : Int) == 16) = true := by rw [beq_iff_eq]; omega
  have t2 : ((a.size : Int) != 16) = false := by rw [bne_eq_false_iff_eq]; omega
  have t3 : ((b.size : Int) == 16) = true := by rw [beq_iff_eq]; omega
  have t4 : ((b.size : Int) != 16) = false := by rw [bne_eq_false_iff_eq]; omega
  obtain ⟨X, hX⟩ : ∃ X, X = dblK a := ⟨_, rfl⟩
  obtain ⟨Y, hY⟩ : ∃ Y, Y = dblK b := ⟨_, rfl⟩
  have c1 := double_yes a ha X hX
  have c2 := double_yes b hb Y hY
  have hXs : X.size = 16 := by rw [hX, dblK_size]
  have hYs : Y.size = 16 := by rw [hY, dblK_size]
  have t5 : ((X.size : Int) == 16) = true := by rw [beq_iff_eq]; omega
  have t6 : ((X.size : Int) != 16) = false := by rw [bne_eq_false_iff_eq]; omega
  have t7 : ((Y.size : Int) == 16) = true := by rw [beq_iff_eq]; omega
  have t8 : ((Y.size : Int) != 16) = false := by rw [bne_eq_false_iff_eq]; omega
  have hal : a.data.toList.length = 16 := ha
  have hbl : b.data.toList.length = 16 := hb
  have hab : X = Y ↔ a = b := ⟨fun h => ba_ext (dblL_inj _ _ hal hbl (by
      have h2 : (dblK a).data.toList = (dblK b).data.toList := by rw [← hX, ← hY, h]
      exact h2)), fun h => by rw [hX, hY, h]⟩
  obtain ⟨q, hq⟩ : ∃ q, q = decide (a = b) := ⟨_, rfl⟩
  have q1 : (a.toList == b.toList) = q := by
    by_cases h : a = b
    · rw [hq, decide_eq_true h]; exact str_eq_t h
    · rw [hq, decide_eq_false h]; exact str_ne_f h
  have q2 : (X.toList == Y.toList) = q := by
    by_cases h : a = b
    · rw [hq, decide_eq_true h]; exact str_eq_t (hab.2 h)
    · rw [hq, decide_eq_false h]; exact str_ne_f (fun h2 => h (hab.1 h2))
  obtain ⟨C, hC⟩ : ∃ C, C = bs (xorL a.data.toList b.data.toList) := ⟨_, rfl⟩
  obtain ⟨D, hD⟩ : ∃ D, D = bs (xorL X.data.toList Y.data.toList) := ⟨_, rfl⟩
  have c3 := double_yes C (by rw [hC, size_bs, xorL_len]) D (by
    rw [hD, dblK, hC, list_bs, dblL_xor, hX, hY]; rfl)
  have HC := Lib.hid hC
  have HD := Lib.hid hD
  have HAS := Lib.hid (And.intro ha hb)
  have HXS := Lib.hid (And.intro hXs hYs)
  have H0 : Hid (Since ((w.alloc (.cells Z16 45)).alloc (.cells Z16 45)) ((w.alloc (.cells Z16 45)).alloc (.cells Z16 45))) := Lib.hid (Since.refl _)
  have hr0 : ((w.alloc (.cells Z16 45)).alloc (.cells Z16 45)).rowIs w.heap.size 45 16 (fun _ => .int .u8 0) := World.rowIs.alloc (zrow w 45 Z16 rfl z16) _
  have hr1 : ((w.alloc (.cells Z16 45)).alloc (.cells Z16 45)).rowIs (w.heap.size + 1) 45 16 (fun _ => .int .u8 0) := by
    have h := zrow (w.alloc (.cells Z16 45)) 45 Z16 rfl z16
    simp only [World.size_alloc'] at h
    exact h
  have hs0 : Since w ((w.alloc (.cells Z16 45)).alloc (.cells Z16 45)) := ((Since.refl w).alloc _).alloc _
  clear ha hb hX hY hXs hYs hal hbl hab hq hC hD
  have Hr0 := Lib.hid hr0
  clear hr0
  have Hr1 := Lib.hid hr1
  clear hr1
  have Hs0 := Lib.hid hs0
  clear hs0
  go_enter Try.func10, Try.ntmps10
  go_wp2_with fail
  refine c1.calls H0.out ?_
  intro w1 h1
  have H1 := Lib.hid h1
  clear h1
  go_wp2_with fail
  refine c2.calls H1.out ?_
  intro w2 h2
  have H2 := Lib.hid h2
  clear h2
  go_wp2_with fail
  have HR0 := Lib.hid (Hr0.out.of_block (H2.out.block _ Hr0.out.lt))
  have HR1 := Lib.hid (Hr1.out.of_block (H2.out.block _ Hr1.out.lt))
  have HS0 := Lib.hid (Since.step Hs0.out H2.out)
  clear Hr0 Hr1 Hs0 H0 H1 H2 c1 c2
  go_loopw [9] (fun i wr => ∃ n : Nat, n ≤ 16 ∧ i = .int .i64 (n : Int) ∧ Hid (wr.rowIs w.heap.size 45 16 (fun p => if p < n then .int .u8 ((ent (xorL a.data.toList b.data.toList) p : Nat) : Int) else .int .u8 0)) ∧ Hid (wr.rowIs (w.heap.size + 1) 45 16 (fun p => if p < n then .int .u8 ((ent (xorL X.data.toList Y.data.toList) p : Nat) : Int) else .int .u8 0)) ∧ Hid (Since w wr)) (fun i _ => 16 - (intOf i).toNat)
  case atStart => exact ⟨0, by omega, rfl, Lib.hid (HR0.out.congr fun p hp => by rw [if_neg (by omega)]), Lib.hid (HR1.out.congr fun p hp => by rw [if_neg (by omega)]), HS0⟩
  case round =>
    clear HR0 HR1 HS0
    obtain ⟨n, hn, rfl, HR, HR2, HS⟩ := hrel
    by_cases hlt : n < 16
    · have hd : decide ((n : Int) < 16) = true := decide_eq_true (by omega)
      have hna : n < a.size := by have := HAS.out.1; omega
      have hnb : n < b.size := by have := HAS.out.2; omega
      have hnx : n < X.size := by have := HXS.out.1; omega
      have hny : n < Y.size := by have := HXS.out.2; omega
      obtain ⟨o1, hc1⟩ : ∃ o, wr.cell? ⟨w.heap.size, n, none⟩ = some o := ⟨_, HR.out.cell (i := n) hlt⟩
      have hf1 := HR.out.frozen n
      obtain ⟨o2, hc2⟩ : ∃ o, wr.cell? ⟨w.heap.size + 1, n, none⟩ = some o := ⟨_, HR2.out.cell (i := n) hlt⟩
      have hf2 := HR2.out.frozen n
      have i1 : (0 : Int) ≤ (n : Int) := by omega
      have i2 : (n : Int) < 16 := by omega
      have i3 : (n : Int) < (a.size : Int) := by omega
      have i4 : (n : Int) < (b.size : Int) := by omega
      have i5 : (n : Int) < (X.size : Int) := by omega
      have i6 : (n : Int) < (Y.size : Int) := by omega
      go_wp2_with fail
      go_region
      go_wp2_with fail
      go_region
      go_wp2_with fail
      go_roundw
      case rel =>
        have v1 : bits .xor .u8 (a[n].toNat : Int) (b[n].toNat : Int) = ((ent (xorL a.data.toList b.data.toList) n : Nat) : Int) := by
          rw [u8_xor_nat _ _ (a[n].toNat_lt) (b[n].toNat_lt), xor_ent _ _ _ hlt, ent_s a n hna, ent_s b n hnb]
        have v2 : bits .xor .u8 (X[n].toNat : Int) (Y[n].toNat : Int) = ((ent (xorL X.data.toList Y.data.toList) n : Nat) : Int) := by
          rw [u8_xor_nat _ _ (X[n].toNat_lt) (Y[n].toNat_lt), xor_ent _ _ _ hlt, ent_s X n hnx, ent_s Y n hny]
        rw [v1, v2]
        refine ⟨n + 1, by omega, by go_num, Lib.hid ((((HR.out.set n _).setOther (by simp) _).drew.drew).congr fun p hp => ?_), Lib.hid ((((HR2.out.setOther (by simp) _).set n _).drew.drew).congr fun p hp => ?_), Lib.hid (Since.drew (Since.drew (Below.setCell (p := ⟨w.heap.size + 1, n, none⟩) (Below.setCell (p := ⟨w.heap.size, n, none⟩) HS.out (Nat.le_refl _) _) (Nat.le_succ _) _)))⟩
        · by_cases h : p = n
          · rw [if_pos h, if_pos (by omega), h]
          · rw [if_neg h]
            by_cases h3 : p < n
            · rw [if_pos h3, if_pos (by omega)]
            · rw [if_neg h3, if_neg (by omega)]
        · by_cases h : p = n
          · rw [if_pos h, if_pos (by omega), h]
          · rw [if_neg h]
            by_cases h3 : p < n
            · rw [if_pos h3, if_pos (by omega)]
            · rw [if_neg h3, if_neg (by omega)]
      case measure => simp [intOf]; omega
    · have hd : decide ((n : Int) < 16) = false := decide_eq_false (by omega)
      have HA := Lib.hid (HR.out.congr (g := fun p => .int .u8 ((ent (xorL a.data.toList b.data.toList) p : Nat) : Int)) fun p hp => by rw [if_pos (by omega)])
      have HB := Lib.hid (HR2.out.congr (g := fun p => .int .u8 ((ent (xorL X.data.toList Y.data.toList) p : Nat) : Int)) fun p hp => by rw [if_pos (by omega)])
      have s1 : ∀ w', (Instr.sliceAt 45 (.pointer (some ⟨w.heap.size, 0, none⟩)) none none none).run Try.prog w' = .ok (.slice (some ⟨w.heap.size, 0, none⟩) 16 16) w' := slice_16 _ _
      have s2 : ∀ w', (Instr.sliceAt 45 (.pointer (some ⟨w.heap.size + 1, 0, none⟩)) none none none).run Try.prog w' = .ok (.slice (some ⟨w.heap.size + 1, 0, none⟩) 16 16) w' := slice_16 _ _
      have hp : Hid (PD w (xorL a.data.toList b.data.toList) (xorL X.data.toList Y.data.toList) wr) := Lib.hid ⟨HS.out, xorL_len _ _, xorL_len _ _, HA.out, HB.out⟩
      clear HA HB HR HR2 HS HAS HXS
      rcases q with _ | _
      all_goals
        go_wp2_with fail
        go_region_held3 (fun W => Hid (PD w (xorL a.data.toList b.data.toList) (xorL X.data.toList Y.data.toList) W) ∧ (convert 46 9 (.slice (some ⟨w.heap.size, 0, none⟩) 16 16)).run Try.prog W = .ok (.string C) W ∧ (convert 46 9 (.slice (some ⟨w.heap.size + 1, 0, none⟩) 16 16)).run Try.prog W = .ok (.string D) W)
          (first | exact pdS (by assumption) HC HD | exact pdS (pddrew (by assumption)) HC HD)
          (first | (go_at_call 37; refine (c3 _).mono ?_; rintro x w5 ⟨rfl, h5⟩; have hp5 := pdstep h5 (by first | assumption | exact pddrew (by assumption)); clear h5) | (go_at_call 32; refine (Cmac.awake_mak _).mono ?_; rintro x w6 ⟨rfl, h6⟩; have hp6 := pdstep h6 (by first | assumption | exact pddrew (by assumption)); clear h6))
        all_goals
          go_wp2_with fail
          go_ret
          exact ⟨rfl, hp6.out.since⟩
theorem walk (a0 a1 : ByteArray) (_w0 : a0.size ≤ maxLen) (_w1 : a1.size ≤ maxLen) (w : World) :
    Calls Try.prog 10 #[.string a0, .string a1] w fun e w' => e = .returned (.bool true) ∧ Below w.heap.size w w' := by
  by_cases ha : a0.size = 16
  · by_cases hb : a1.size = 16
    · exact core a0 a1 ha hb w
    · exact core_b a0 a1 ha hb w
  · exact core_a a0 a1 ha w

theorem own : ownKnob Try.prog.godebug = none := by kernel_rfl

set_option maxRecDepth 100000 in
theorem lifted (os : Os) (started : os.Started) (H : Type) (enc : TypeId × Value → H) :
    ReturnsInHanded {} Try.checked os 10 .any (Rows.cmacDoublesSpec.pre6 enc Try.prog Try.f10 Rows.cmacDoublesRow.domain false) (Rows.cmacDoublesSpec.post enc Try.prog Try.f10 false true false false) := by
  refine returnsInHanded_of_change (C := Try.checked) own started (by kernel_rfl) Try.func10
    (ChangeSpec.witness6 (enc := enc) (C := Try.checked) false ⟨#[], #[.string ⟨#[]⟩, .string ⟨#[]⟩], []⟩ 8 (by kernel_rfl) (by kernel_rfl) (by kernel_rfl) (by kernel_rfl)) ?_
  intro W base args ds gs before hval0 hW hcnd _
  have hval : ∀ (j : Nat) t v, Try.f10.params[j]? = some t → args[j]? = some v → Value.okWide Try.prog W .any base t v := hval0
  have hW' := hW
  obtain ⟨p, q, hA0, hV, rfl, hfz, hnd⟩ := hW
  have hA : DataW.TrodAll enc Try.prog W 0 (fun _ => true) true Try.f10.params.toList args.toList ds p := hA0
  rw [Try.params10] at hA hval
  obtain ⟨v0, vs0, d0, ds0, p0, q0, hargs, rfl, rfl, h0, r0⟩ := trodAll_cons hA
  obtain ⟨v1, vs1, d1, ds1, p1, q1, rfl, rfl, rfl, h1, r1⟩ := trodAll_cons r0
  obtain ⟨rfl, rfl, rfl⟩ := trodAll_nil r1
  obtain rfl : args = #[v0, v1] := by cases args; simp_all
  obtain ⟨rfl, rfl⟩ := trodVars_none hV
  obtain ⟨a0, rfl, rfl, rfl, w0⟩ := Go.ChangeMaps.open_string Try.underlying9 (hval 0 9 v0 rfl rfl) h0
  obtain ⟨a1, rfl, rfl, rfl, w1⟩ := Go.ChangeMaps.open_string Try.underlying9 (hval 1 9 v1 rfl rfl) h1
  clear hA0 hval0
  simp only [List.append_nil] at hW'
  refine (walk a0 a1 w0 w1 W).mono fun e W' ⟨he, hg⟩ => ?_
  subst he
  exact ⟨_, rfl, _, _, _, _, _, [], hW', (trodAll_cons_mk (shut_bool Try.underlying4 _) trodAll_mk0), (trodAll_cons_mk (Go.ChangeMaps.shut_string Try.underlying9 w0) (trodAll_cons_mk (Go.ChangeMaps.shut_string Try.underlying9 w1) trodAll_mk0)), rfl, hg.frame _, fun h => by cases h⟩

theorem over : Rows.cmacDoublesRow.holds Try.pinned (OpenSpec.ofChange Rows.cmacDoublesSpec) :=
  OpenClaim.holds_of_wide 10 Try.f10 rfl rfl rfl rfl rfl rfl rfl ⟨rfl, rfl, rfl, rfl, rfl⟩ rfl rfl rfl rfl rfl (by kernel_rfl) Try.func10 (by kernel_rfl)
    (of_decide_eq_true (by kernel_rfl)) (by unfold Func.isWrapper; first | (rw [if_pos (by decide +kernel)]; kernel_rfl) | (rw [if_neg (by decide +kernel)]; exact ⟨rfl, rfl⟩))
    (fun os started H enc _ => lifted os started H enc)

theorem proved : Rows.CmacDoublesSaid :=
  over

end Go.Proofs.Ytijpmfnomdngpaa.cmacDoubles
