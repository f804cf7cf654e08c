/- The law TableGoes: each usage of a letter goes with each of its modes, and each version and exportability that may be; no conditions. -/
import Derived.Test.YtlmnidpcdibnkaaDoorRows
import Derived.WalkKit
import Derived.ProofKit
import Derived.OpenShut
import Derived.Lib.Hide
import Derived.Test.YtlmnidpcdibnkaaDoorHq15
import Derived.Test.YtlmnidpcdibnkaaDoorCards
import Derived.Test.YtlmnidpcdibnkaaDoorTie
import Derived.LaidMore
import Derived.SevenTiedAt
import Derived.Stop.Joined
namespace Go.Proofs.YtlmnidpcdibnkaaDoor.tableGoes
open Go.ChangeShapes Go.WideShapes Go.ChangeAt Go.RowKit
open Table

theorem usages_mem (l : List UInt8) (u : ByteArray) (h : u ∈ usagesL l) : ∃ j r, j < 10 ∧ rows[j]? = some r ∧ u = bs r.1 ∧ one r.2.1 l = true := by
  unfold usagesL at h
  obtain ⟨r, hr, rfl⟩ := List.mem_map.1 h
  obtain ⟨h1, h2⟩ := List.mem_filter.1 hr
  obtain ⟨j, hj, rfl⟩ := List.getElem_of_mem h1
  have hj2 : j < 10 := by
    have h9 : (rows.take 10).length = 10 := rfl
    omega
  refine ⟨j, _, hj2, ?_, rfl, h2⟩
  rw [List.getElem_take]
  exact List.getElem?_eq_getElem _
theorem one_at (m : List UInt8) (i : Nat) (h : i < m.length) : one m [m[i]] = true := by
  show m.contains m[i] = true
  rw [List.contains_eq_any_beq, List.any_eq_true]
  exact ⟨m[i], List.getElem_mem h, beq_self_eq_true _⟩
theorem modes_some (j : Nat) (r : List UInt8 × List UInt8 × List UInt8) (hj : j < 10) (h : rows[j]? = some r) : 0 < (bs r.2.2).size ∧ (bs r.2.2).size ≤ 100 := by
  have hall : ∀ k : Fin 10, ∀ r, rows[k.1]? = some r → 0 < (bs r.2.2).size ∧ (bs r.2.2).size ≤ 100 := by
    intro k r hr
    match k with
    | 0 | 1 | 2 | 3 | 4 | 5 | 6 | 7 | 8 | 9 => cases hr; decide
  exact hall ⟨j, hj⟩ r h
set_option maxRecDepth 100000 in
set_option maxHeartbeats 8000000 in
theorem core (l v0 e : ByteArray) (l1 : (l.size : Int) ≤ 20) (l2 : (v0.size : Int) ≤ 20) (l3 : (e.size : Int) ≤ 20) (q1 q2 : Bool) (X : Int) (hX : X = if verB v0.data.toList && one [69, 78, 83] e.data.toList then 0 else 12) (hX2 : (if q1 && q2 then 0 else 12) = X) (L : List ByteArray) (hL : L = usagesL l.data.toList)
    (c1 : Ret 13 #[.string v0] (.bool q1)) (c2 : Ret 15 #[.string e] (.bool q2)) (c3 : KMkS Tabs 22 #[.string l] L) (w : World) (hT : Tabs w) :
    Calls Tryd.prog 4 #[.string l, .string v0, .string e] w fun x w' => x = .returned (.bool true) ∧ Since w w' := by
  have HS := Lib.hid (Since.refl w)
  have HT := Lib.hid hT
  have HX := Lib.hid hX
  have HL := Lib.hid hL
  have t1 : decide ((20 : Int) < (l.size : Int)) = false := decide_eq_false (by omega)
  have t2 : decide ((20 : Int) < (v0.size : Int)) = false := decide_eq_false (by omega)
  have t3 : decide ((20 : Int) < (e.size : Int)) = false := decide_eq_false (by omega)
  clear hT hX hL
  cases q1
  · obtain rfl : X = 12 := hX2.symm
    clear hX2
    go_enter Tryd.func4, Tryd.ntmps4
    go_wp2_with fail
    repeat (first
      | (with_reducible refine c1.calls ?_; try go_wp2_with fail))
    refine c3.calls0 HT.out ?_
    intro v w1 ho1 hb1
    have HV := Lib.hid ho1.read
    replace HS := Lib.hid (HS.out.step hb1)
    replace HT := Lib.hid (Kp.keep HT.out hb1)
    clear ho1 hb1
    obtain ⟨hlen, A, c, rfl, hcs⟩ := HV.out
    clear hlen
    have hL9 : L.length ≤ 10 := by rw [HL.out]; exact usagesF_len l.data.toList 10
    go_wp2_with fail
    go_loopw [35] (fun i wr => ∃ k : Nat, k ≤ L.length ∧ i = .int .i64 (k : Int) ∧ Hid (Since w1 wr)) (fun i _ => L.length - (intOf i).toNat)
    case atStart => exact ⟨0, by omega, rfl, Lib.hid (Since.refl _)⟩
    case round =>
      obtain ⟨k, hk, rfl, HI⟩ := hrel
      have HT2 := HT
      have HS2 := HS
      have HS0 := HS
      replace HT2 := Lib.hid (Kp.keep HT.out HI.out)
      replace HS2 := Lib.hid (HS.out.step HI.out)
      by_cases hlt : k < L.length
      · have hmem : L[k] ∈ usagesL l.data.toList := by rw [← HL.out]; exact List.getElem_mem hlt
        obtain ⟨j, r, hj, hr, hu, hq⟩ := usages_mem _ _ hmem
        rcases hcs with hcs | ⟨ad, rfl, had, hcs⟩
        · rw [hcs] at hlt
          exact absurd hlt (Nat.not_lt_zero _)
        have m0 : wr.cell? (ad.add k) = some (.string (bs r.1)) := by
          have h9 : L.getD k ⟨#[]⟩ = bs r.1 := by
            rw [List.getD_eq_getElem?_getD, List.getElem?_eq_getElem hlt, Option.getD_some, hu]
          have h8 := hcs k hlt
          rw [h9] at h8
          exact (Below.cell HI.out (by rw [show (ad.add k).block = ad.block from by unfold Addr.add; split <;> rfl]; exact had)).trans h8
        have hln := line_row j r hj hr
        obtain ⟨hm0, hm1⟩ := modes_some j r hj hr
        obtain ⟨u, hux⟩ : ∃ u, u = bs r.1 := ⟨_, rfl⟩
        obtain ⟨m, hmx⟩ : ∃ m, m = bs r.2.2 := ⟨_, rfl⟩
        have c4 := modes_k u m (by rw [hux, list_bs, hln]; exact hmx)
        have c5 := usage_k u l true (by rw [hux, list_bs, hln]; exact hq.symm)
        have HC : Hid (∀ i (hi : i < m.size), KMk Tabs 17 #[.agg #[.string u, .string (m.extract i (i + 1)), .string v0, .string e], .string l] (.int .i64 12)) := Lib.hid (fun i hi => by
          refine check_k u _ v0 e l _ ?_
          have h1 : (m.extract i (i + 1)).data.toList = [m[i]] := by
            rw [ext_list, Nat.add_sub_cancel_left, List.drop_eq_getElem_cons (show i < m.data.toList.length from hi)]
            rfl
          have h2 : one r.2.2 [m[i]] = true := by
            have := one_at r.2.2 i (by rw [hmx, size_bs] at hi; exact hi)
            subst hmx
            exact this
          have h3 : okB u.data.toList (m.extract i (i + 1)).data.toList v0.data.toList e.data.toList l.data.toList = (verB v0.data.toList && one [69, 78, 83] e.data.toList) := by
            unfold okB
            rw [h1, hux, list_bs, hln, hq, h2, Bool.true_and, Bool.true_and]
          rw [h3]
          exact HX.out)
        rw [← hux] at m0
        rw [← hmx] at hm0 hm1
        have t5 : ((m.size : Int) == 0) = false := by rw [beq_eq_false_iff_ne]; omega
        clear hr hu hq hln hux hmx hcs hmem
        go_wp2_with fail
        have HS := HS2
        have HT := HT2
        repeat (first
          | (with_reducible refine c4.calls0 HT.out ?_; intro wz hz; replace HI := Lib.hid (HI.out.step hz); replace HT := Lib.hid (Kp.keep HT.out hz); replace HS := Lib.hid (HS.out.step hz); clear hz; try go_wp2_with fail)
          | (with_reducible refine c5.calls0 HT.out ?_; intro wz hz; replace HI := Lib.hid (HI.out.step hz); replace HT := Lib.hid (Kp.keep HT.out hz); replace HS := Lib.hid (HS.out.step hz); clear hz; try go_wp2_with fail))
        go_loopw [11] (fun i wr => ∃ k : Nat, k ≤ m.size ∧ i = .int .i64 (k : Int) ∧ Hid (Tabs wr) ∧ Hid (Since w1 wr)) (fun i _ => m.size - (intOf i).toNat)
        case atStart => exact ⟨0, by omega, rfl, HT, HI⟩
        case round =>
          obtain ⟨i, hi, rfl, HTI, HSI⟩ := hrel
          by_cases hli : i < m.size
          · have c6 := HC.out i hli
            have i1 : (0 : Int) ≤ (i : Int) := by omega
            have i2 : (i : Int) + 1 ≤ (m.size : Int) := by omega
            go_wp2_with fail
            have HS := Lib.hid (HS0.out.step HSI.out)
            have HT := HTI
            have HI := HSI
            repeat (first
              | (with_reducible refine c6.calls0 HT.out ?_; intro wz hz; replace HI := Lib.hid (HI.out.step hz); replace HT := Lib.hid (Kp.keep HT.out hz); replace HS := Lib.hid (HS.out.step hz); clear hz; try go_wp2_with fail))
            go_roundw
            case rel => exact ⟨i + 1, by omega, by go_num, HT, HI⟩
            case measure => simp [intOf]; omega
          · obtain rfl : i = m.size := by omega
            go_wp2_with fail
            go_roundw
            case rel => exact ⟨k + 1, by omega, by go_num, HSI⟩
            case measure => simp [intOf]; omega
      · obtain rfl : k = L.length := by omega
        go_wp2_with fail
        have HS := HS2
        have HT := HT2
        have c9 := awake_k
        repeat (first
          | (with_reducible refine c9.calls0 HT.out ?_; intro wz hz; replace HT := Lib.hid (Kp.keep HT.out hz); replace HS := Lib.hid (HS.out.step hz); clear hz; try go_wp2_with fail))
        go_ret
        exact ⟨rfl, HS.out⟩
  · cases q2
    · obtain rfl : X = 12 := hX2.symm
      clear hX2
      go_enter Tryd.func4, Tryd.ntmps4
      go_wp2_with fail
      repeat (first
        | (with_reducible refine c1.calls ?_; try go_wp2_with fail)
        | (with_reducible refine c2.calls ?_; try go_wp2_with fail))
      refine c3.calls0 HT.out ?_
      intro v w1 ho1 hb1
      have HV := Lib.hid ho1.read
      replace HS := Lib.hid (HS.out.step hb1)
      replace HT := Lib.hid (Kp.keep HT.out hb1)
      clear ho1 hb1
      obtain ⟨hlen, A, c, rfl, hcs⟩ := HV.out
      clear hlen
      have hL9 : L.length ≤ 10 := by rw [HL.out]; exact usagesF_len l.data.toList 10
      go_wp2_with fail
      go_loopw [35] (fun i wr => ∃ k : Nat, k ≤ L.length ∧ i = .int .i64 (k : Int) ∧ Hid (Since w1 wr)) (fun i _ => L.length - (intOf i).toNat)
      case atStart => exact ⟨0, by omega, rfl, Lib.hid (Since.refl _)⟩
      case round =>
        obtain ⟨k, hk, rfl, HI⟩ := hrel
        have HT2 := HT
        have HS2 := HS
        have HS0 := HS
        replace HT2 := Lib.hid (Kp.keep HT.out HI.out)
        replace HS2 := Lib.hid (HS.out.step HI.out)
        by_cases hlt : k < L.length
        · have hmem : L[k] ∈ usagesL l.data.toList := by rw [← HL.out]; exact List.getElem_mem hlt
          obtain ⟨j, r, hj, hr, hu, hq⟩ := usages_mem _ _ hmem
          rcases hcs with hcs | ⟨ad, rfl, had, hcs⟩
          · rw [hcs] at hlt
            exact absurd hlt (Nat.not_lt_zero _)
          have m0 : wr.cell? (ad.add k) = some (.string (bs r.1)) := by
            have h9 : L.getD k ⟨#[]⟩ = bs r.1 := by
              rw [List.getD_eq_getElem?_getD, List.getElem?_eq_getElem hlt, Option.getD_some, hu]
            have h8 := hcs k hlt
            rw [h9] at h8
            exact (Below.cell HI.out (by rw [show (ad.add k).block = ad.block from by unfold Addr.add; split <;> rfl]; exact had)).trans h8
          have hln := line_row j r hj hr
          obtain ⟨hm0, hm1⟩ := modes_some j r hj hr
          obtain ⟨u, hux⟩ : ∃ u, u = bs r.1 := ⟨_, rfl⟩
          obtain ⟨m, hmx⟩ : ∃ m, m = bs r.2.2 := ⟨_, rfl⟩
          have c4 := modes_k u m (by rw [hux, list_bs, hln]; exact hmx)
          have c5 := usage_k u l true (by rw [hux, list_bs, hln]; exact hq.symm)
          have HC : Hid (∀ i (hi : i < m.size), KMk Tabs 17 #[.agg #[.string u, .string (m.extract i (i + 1)), .string v0, .string e], .string l] (.int .i64 12)) := Lib.hid (fun i hi => by
            refine check_k u _ v0 e l _ ?_
            have h1 : (m.extract i (i + 1)).data.toList = [m[i]] := by
              rw [ext_list, Nat.add_sub_cancel_left, List.drop_eq_getElem_cons (show i < m.data.toList.length from hi)]
              rfl
            have h2 : one r.2.2 [m[i]] = true := by
              have := one_at r.2.2 i (by rw [hmx, size_bs] at hi; exact hi)
              subst hmx
              exact this
            have h3 : okB u.data.toList (m.extract i (i + 1)).data.toList v0.data.toList e.data.toList l.data.toList = (verB v0.data.toList && one [69, 78, 83] e.data.toList) := by
              unfold okB
              rw [h1, hux, list_bs, hln, hq, h2, Bool.true_and, Bool.true_and]
            rw [h3]
            exact HX.out)
          rw [← hux] at m0
          rw [← hmx] at hm0 hm1
          have t5 : ((m.size : Int) == 0) = false := by rw [beq_eq_false_iff_ne]; omega
          clear hr hu hq hln hux hmx hcs hmem
          go_wp2_with fail
          have HS := HS2
          have HT := HT2
          repeat (first
            | (with_reducible refine c4.calls0 HT.out ?_; intro wz hz; replace HI := Lib.hid (HI.out.step hz); replace HT := Lib.hid (Kp.keep HT.out hz); replace HS := Lib.hid (HS.out.step hz); clear hz; try go_wp2_with fail)
            | (with_reducible refine c5.calls0 HT.out ?_; intro wz hz; replace HI := Lib.hid (HI.out.step hz); replace HT := Lib.hid (Kp.keep HT.out hz); replace HS := Lib.hid (HS.out.step hz); clear hz; try go_wp2_with fail))
          go_loopw [11] (fun i wr => ∃ k : Nat, k ≤ m.size ∧ i = .int .i64 (k : Int) ∧ Hid (Tabs wr) ∧ Hid (Since w1 wr)) (fun i _ => m.size - (intOf i).toNat)
          case atStart => exact ⟨0, by omega, rfl, HT, HI⟩
          case round =>
            obtain ⟨i, hi, rfl, HTI, HSI⟩ := hrel
            by_cases hli : i < m.size
            · have c6 := HC.out i hli
              have i1 : (0 : Int) ≤ (i : Int) := by omega
              have i2 : (i : Int) + 1 ≤ (m.size : Int) := by omega
              go_wp2_with fail
              have HS := Lib.hid (HS0.out.step HSI.out)
              have HT := HTI
              have HI := HSI
              repeat (first
                | (with_reducible refine c6.calls0 HT.out ?_; intro wz hz; replace HI := Lib.hid (HI.out.step hz); replace HT := Lib.hid (Kp.keep HT.out hz); replace HS := Lib.hid (HS.out.step hz); clear hz; try go_wp2_with fail))
              go_roundw
              case rel => exact ⟨i + 1, by omega, by go_num, HT, HI⟩
              case measure => simp [intOf]; omega
            · obtain rfl : i = m.size := by omega
              go_wp2_with fail
              go_roundw
              case rel => exact ⟨k + 1, by omega, by go_num, HSI⟩
              case measure => simp [intOf]; omega
        · obtain rfl : k = L.length := by omega
          go_wp2_with fail
          have HS := HS2
          have HT := HT2
          have c9 := awake_k
          repeat (first
            | (with_reducible refine c9.calls0 HT.out ?_; intro wz hz; replace HT := Lib.hid (Kp.keep HT.out hz); replace HS := Lib.hid (HS.out.step hz); clear hz; try go_wp2_with fail))
          go_ret
          exact ⟨rfl, HS.out⟩
    · obtain rfl : X = 0 := hX2.symm
      clear hX2
      go_enter Tryd.func4, Tryd.ntmps4
      go_wp2_with fail
      repeat (first
        | (with_reducible refine c1.calls ?_; try go_wp2_with fail)
        | (with_reducible refine c2.calls ?_; try go_wp2_with fail))
      refine c3.calls0 HT.out ?_
      intro v w1 ho1 hb1
      have HV := Lib.hid ho1.read
      replace HS := Lib.hid (HS.out.step hb1)
      replace HT := Lib.hid (Kp.keep HT.out hb1)
      clear ho1 hb1
      obtain ⟨hlen, A, c, rfl, hcs⟩ := HV.out
      clear hlen
      have hL9 : L.length ≤ 10 := by rw [HL.out]; exact usagesF_len l.data.toList 10
      go_wp2_with fail
      go_loopw [35] (fun i wr => ∃ k : Nat, k ≤ L.length ∧ i = .int .i64 (k : Int) ∧ Hid (Since w1 wr)) (fun i _ => L.length - (intOf i).toNat)
      case atStart => exact ⟨0, by omega, rfl, Lib.hid (Since.refl _)⟩
      case round =>
        obtain ⟨k, hk, rfl, HI⟩ := hrel
        have HT2 := HT
        have HS2 := HS
        have HS0 := HS
        replace HT2 := Lib.hid (Kp.keep HT.out HI.out)
        replace HS2 := Lib.hid (HS.out.step HI.out)
        by_cases hlt : k < L.length
        · have hmem : L[k] ∈ usagesL l.data.toList := by rw [← HL.out]; exact List.getElem_mem hlt
          obtain ⟨j, r, hj, hr, hu, hq⟩ := usages_mem _ _ hmem
          rcases hcs with hcs | ⟨ad, rfl, had, hcs⟩
          · rw [hcs] at hlt
            exact absurd hlt (Nat.not_lt_zero _)
          have m0 : wr.cell? (ad.add k) = some (.string (bs r.1)) := by
            have h9 : L.getD k ⟨#[]⟩ = bs r.1 := by
              rw [List.getD_eq_getElem?_getD, List.getElem?_eq_getElem hlt, Option.getD_some, hu]
            have h8 := hcs k hlt
            rw [h9] at h8
            exact (Below.cell HI.out (by rw [show (ad.add k).block = ad.block from by unfold Addr.add; split <;> rfl]; exact had)).trans h8
          have hln := line_row j r hj hr
          obtain ⟨hm0, hm1⟩ := modes_some j r hj hr
          obtain ⟨u, hux⟩ : ∃ u, u = bs r.1 := ⟨_, rfl⟩
          obtain ⟨m, hmx⟩ : ∃ m, m = bs r.2.2 := ⟨_, rfl⟩
          have c4 := modes_k u m (by rw [hux, list_bs, hln]; exact hmx)
          have c5 := usage_k u l true (by rw [hux, list_bs, hln]; exact hq.symm)
          have HC : Hid (∀ i (hi : i < m.size), KMk Tabs 17 #[.agg #[.string u, .string (m.extract i (i + 1)), .string v0, .string e], .string l] (.int .i64 0)) := Lib.hid (fun i hi => by
            refine check_k u _ v0 e l _ ?_
            have h1 : (m.extract i (i + 1)).data.toList = [m[i]] := by
              rw [ext_list, Nat.add_sub_cancel_left, List.drop_eq_getElem_cons (show i < m.data.toList.length from hi)]
              rfl
            have h2 : one r.2.2 [m[i]] = true := by
              have := one_at r.2.2 i (by rw [hmx, size_bs] at hi; exact hi)
              subst hmx
              exact this
            have h3 : okB u.data.toList (m.extract i (i + 1)).data.toList v0.data.toList e.data.toList l.data.toList = (verB v0.data.toList && one [69, 78, 83] e.data.toList) := by
              unfold okB
              rw [h1, hux, list_bs, hln, hq, h2, Bool.true_and, Bool.true_and]
            rw [h3]
            exact HX.out)
          rw [← hux] at m0
          rw [← hmx] at hm0 hm1
          have t5 : ((m.size : Int) == 0) = false := by rw [beq_eq_false_iff_ne]; omega
          clear hr hu hq hln hux hmx hcs hmem
          go_wp2_with fail
          have HS := HS2
          have HT := HT2
          repeat (first
            | (with_reducible refine c4.calls0 HT.out ?_; intro wz hz; replace HI := Lib.hid (HI.out.step hz); replace HT := Lib.hid (Kp.keep HT.out hz); replace HS := Lib.hid (HS.out.step hz); clear hz; try go_wp2_with fail)
            | (with_reducible refine c5.calls0 HT.out ?_; intro wz hz; replace HI := Lib.hid (HI.out.step hz); replace HT := Lib.hid (Kp.keep HT.out hz); replace HS := Lib.hid (HS.out.step hz); clear hz; try go_wp2_with fail))
          go_loopw [11] (fun i wr => ∃ k : Nat, k ≤ m.size ∧ i = .int .i64 (k : Int) ∧ Hid (Tabs wr) ∧ Hid (Since w1 wr)) (fun i _ => m.size - (intOf i).toNat)
          case atStart => exact ⟨0, by omega, rfl, HT, HI⟩
          case round =>
            obtain ⟨i, hi, rfl, HTI, HSI⟩ := hrel
            by_cases hli : i < m.size
            · have c6 := HC.out i hli
              have i1 : (0 : Int) ≤ (i : Int) := by omega
              have i2 : (i : Int) + 1 ≤ (m.size : Int) := by omega
              go_wp2_with fail
              have HS := Lib.hid (HS0.out.step HSI.out)
              have HT := HTI
              have HI := HSI
              repeat (first
                | (with_reducible refine c6.calls0 HT.out ?_; intro wz hz; replace HI := Lib.hid (HI.out.step hz); replace HT := Lib.hid (Kp.keep HT.out hz); replace HS := Lib.hid (HS.out.step hz); clear hz; try go_wp2_with fail))
              go_roundw
              case rel => exact ⟨i + 1, by omega, by go_num, HT, HI⟩
              case measure => simp [intOf]; omega
            · obtain rfl : i = m.size := by omega
              go_wp2_with fail
              go_roundw
              case rel => exact ⟨k + 1, by omega, by go_num, HSI⟩
              case measure => simp [intOf]; omega
        · obtain rfl : k = L.length := by omega
          go_wp2_with fail
          have HS := HS2
          have HT := HT2
          have c9 := awake_k
          repeat (first
            | (with_reducible refine c9.calls0 HT.out ?_; intro wz hz; replace HT := Lib.hid (Kp.keep HT.out hz); replace HS := Lib.hid (HS.out.step hz); clear hz; try go_wp2_with fail))
          go_ret
          exact ⟨rfl, HS.out⟩
set_option maxRecDepth 100000 in
set_option maxHeartbeats 4000000 in
theorem core_big (l v e : ByteArray) (hb : 20 < l.size ∨ 20 < v.size ∨ 20 < e.size) (w : World) (hT : Tabs w) :
    Calls Tryd.prog 4 #[.string l, .string v, .string e] w fun x w' => x = .returned (.bool true) ∧ Since w w' := by
  have HS := Lib.hid (Since.refl w)
  have HT := Lib.hid hT
  have c9 := awake_k
  clear hT
  by_cases h1 : 20 < l.size
  · have t1 : decide ((20 : Int) < (l.size : Int)) = true := decide_eq_true (by omega)
    clear hb h1
    go_enter Tryd.func4, Tryd.ntmps4
    go_wp2_with fail
    repeat (first
      | (with_reducible refine c9.calls0 HT.out ?_; intro wz hz; replace HT := Lib.hid (Kp.keep HT.out hz); replace HS := Lib.hid (HS.out.step hz); clear hz; try go_wp2_with fail))
    go_ret
    exact ⟨rfl, HS.out⟩
  · have t1 : decide ((20 : Int) < (l.size : Int)) = false := decide_eq_false (by omega)
    by_cases h2 : 20 < v.size
    · have t2 : decide ((20 : Int) < (v.size : Int)) = true := decide_eq_true (by omega)
      clear hb h1 h2
      go_enter Tryd.func4, Tryd.ntmps4
      go_wp2_with fail
      repeat (first
        | (with_reducible refine c9.calls0 HT.out ?_; intro wz hz; replace HT := Lib.hid (Kp.keep HT.out hz); replace HS := Lib.hid (HS.out.step hz); clear hz; try go_wp2_with fail))
      go_ret
      exact ⟨rfl, HS.out⟩
    · have t2 : decide ((20 : Int) < (v.size : Int)) = false := decide_eq_false (by omega)
      have t3 : decide ((20 : Int) < (e.size : Int)) = true := decide_eq_true (by omega)
      clear hb h1 h2
      go_enter Tryd.func4, Tryd.ntmps4
      go_wp2_with fail
      repeat (first
        | (with_reducible refine c9.calls0 HT.out ?_; intro wz hz; replace HT := Lib.hid (Kp.keep HT.out hz); replace HS := Lib.hid (HS.out.step hz); clear hz; try go_wp2_with fail))
      go_ret
      exact ⟨rfl, HS.out⟩
set_option maxRecDepth 100000 in
theorem walk (l v e : ByteArray) (_w0 : l.size ≤ maxLen) (_w1 : v.size ≤ maxLen) (_w2 : e.size ≤ maxLen) (w : World) (hT : Tabs w) :
    Calls Tryd.prog 4 #[.string l, .string v, .string e] w fun x w' => x = .returned (.bool true) ∧ Below w.heap.size w w' := by
  by_cases hb : 20 < l.size ∨ 20 < v.size ∨ 20 < e.size
  · exact core_big l v e hb w hT
  · exact core l v e (by omega) (by omega) (by omega) _ _ _ rfl rfl _ rfl (version_ret v _ rfl) (export_ret e _ rfl) (usages_k l _ rfl) w hT

set_option maxRecDepth 100000 in
theorem own : ownKnob Tryd.prog.godebug = none := by kernel_rfl

def laidL {H : Type} : List (String × DataW H) := [("claviger/table.lines", Rows.laid_claviger_table_lines)]
set_option maxRecDepth 100000 in
theorem door_met (os : Os) (args : Array Value) : laidMetH Tryd.prog laidL ((World.doorLaid Tryd.prog 400 os).forCall (fun _ _ => 0) ⟨#[], args, []⟩).memory :=
  laidMetH_of_parts3 (fuel := 8) (laidMet_of_run' 8 (by kernel_rfl) (by kernel_rfl)) (by kernel_rfl) (by kernel_rfl)
set_option maxRecDepth 100000 in
theorem lifted (os : Os) (started : os.Started) (H : Type) (enc : TypeId × Value → H) :
    ReturnsInHanded {} Tryd.checked os 4 .any (fun w args => (Rows.tableGoesSpec.pre enc Tryd.prog Tryd.f4 [] false w args ∧ laidMetH Tryd.prog laidL w) ∧ sizedMet enc Tryd.prog Tryd.f4 (OpenSpec.ofChange Rows.tableGoesSpec) false w args)
      (Rows.tableGoesSpec.post enc Tryd.prog Tryd.f4 false true false false) := by
  refine returnsInHanded_of_change_and (C := Tryd.checked) (X := fun w _ => laidMetH Tryd.prog laidL w) (fun _ _ _ hh h => h.of_heap hh) own started (by kernel_rfl) Tryd.func4
    (ChangeSpec.witness_shaped (enc := enc) (C := Tryd.checked) (os := os) (X := fun w _ => laidMetH Tryd.prog laidL w) false (World.doorLaid Tryd.prog 400 os) #[.string ⟨#[]⟩, .string ⟨#[]⟩, .string ⟨#[]⟩] 8 rfl (World.shaped_of_RefB (by kernel_rfl) (by kernel_rfl)) (by kernel_rfl) (by kernel_rfl) (by kernel_rfl) (door_met os _)) ?_
  intro W base args ds gs before hval0 hW _ _ hL _
  have hval : ∀ (j : Nat) t v, Tryd.f4.params[j]? = some t → args[j]? = some v → Value.okWide Tryd.prog W .any base t v := hval0
  have hW' := hW
  obtain ⟨p, q, hA0, hV, rfl, hfz, hnd⟩ := hW
  have hA : DataW.TrodAll enc Tryd.prog W 0 (fun _ => true) true Tryd.f4.params.toList args.toList ds p := hA0
  rw [Tryd.params4] at hA hval
  obtain ⟨v0, vs0, d0, ds0, p0, q0, hargs, rfl, rfl, h0, r0⟩ := trodAll_cons hA
  obtain ⟨v1, vs1, d1, ds1, p1, q1, rfl, rfl, rfl, h1, r1⟩ := trodAll_cons r0
  obtain ⟨v2, vs2, d2, ds2, p2, q2, rfl, rfl, rfl, h2, r2⟩ := trodAll_cons r1
  obtain ⟨rfl, rfl, rfl⟩ := trodAll_nil r2
  obtain rfl : args = #[v0, v1, v2] := by cases args; simp_all
  obtain ⟨rfl, rfl⟩ := trodVars_none hV
  obtain ⟨a0, rfl, rfl, rfl, w0⟩ := Go.ChangeMaps.open_string Tryd.underlying9 (hval 0 9 v0 rfl rfl) h0
  obtain ⟨a1, rfl, rfl, rfl, w1⟩ := Go.ChangeMaps.open_string Tryd.underlying9 (hval 1 9 v1 rfl rfl) h1
  obtain ⟨a2, rfl, rfl, rfl, w2⟩ := Go.ChangeMaps.open_string Tryd.underlying9 (hval 2 9 v2 rfl rfl) h2
  clear hA0 hval0
  simp only [List.append_nil] at hW'
  refine (walk a0 a1 a2 w0 w1 w2 W (Table.tabs_of hL)).mono fun e W' ⟨he, hg⟩ => ?_
  subst he
  exact ⟨_, rfl, _, _, _, _, _, [], hW', (trodAll_cons_mk (shut_bool Tryd.underlying4 _) trodAll_mk0), (trodAll_cons_mk (Go.ChangeMaps.shut_string Tryd.underlying9 w0) (trodAll_cons_mk (Go.ChangeMaps.shut_string Tryd.underlying9 w1) (trodAll_cons_mk (Go.ChangeMaps.shut_string Tryd.underlying9 w2) trodAll_mk0))), rfl, hg.frame _, fun h => by cases h⟩

set_option maxRecDepth 100000 in
theorem over : Rows.tableGoesRow.holds Tryd.pinned (OpenSpec.ofChange Rows.tableGoesSpec) :=
  OpenClaim.holds_of_wide 4 Tryd.f4 rfl rfl rfl rfl rfl rfl rfl ⟨rfl, rfl, rfl, rfl, rfl⟩ rfl rfl rfl rfl rfl (by kernel_rfl) Tryd.func4 (by kernel_rfl)
    (of_decide_eq_true (by kernel_rfl)) (by unfold Func.isWrapper; first | (rw [if_pos (by decide +kernel)]; kernel_rfl) | (rw [if_neg (by decide +kernel)]; exact ⟨rfl, rfl⟩))
    (fun os started H enc _ => lifted os started H enc)

set_option maxRecDepth 100000 in
theorem proved : Rows.TableGoesCardSaid :=
  Claim7.holds_tied_plain_at .later [] [.data] true Rows.tableGoesCard.stood.harness false
    over (fun _ h => by cases h) (by kernel_rfl) (fun _ h => by cases h) tableGoes_row_tie rfl ⟨rfl, rfl⟩ (by kernel_rfl) rfl
    (fun f fn hf hfn => by
      obtain rfl : f = 4 := Option.some.inj ((show Tryd.prog.funcNamed "claviger/clavigerlaw30.TableGoes" = some 4 by kernel_rfl).symm.trans hf) |>.symm
      obtain rfl : fn = Tryd.f4 := (Option.some.inj (Tryd.func4.symm.trans hfn)).symm
      exact ⟨by kernel_rfl, fun j t ht => by
        rw [Tryd.params4] at ht
        have hm : t ∈ [9, 9, 9] := by simpa using Array.mem_of_getElem? ht
        have hall : ([9, 9, 9].all fun u => !Tryd.prog.wantsStandIn u) = true := by kernel_rfl
        exact (show Tryd.prog.wantsStandIn t = false by simpa using List.all_eq_true.1 hall t hm)⟩)
    (by kernel_rfl)

end Go.Proofs.YtlmnidpcdibnkaaDoor.tableGoes
