/- The reference of package fault. -/
import Derived.Test.YtcdjpdncgaeinaaDoorFault3
import Derived.Test.YtcdjpdncgaeinaaDoorMemI
namespace Go.Proofs.YtcdjpdncgaeinaaDoor
open Go.RowKit
namespace Fault

/-- a call that makes a slice of numbers -/
def MakI (f : Nat) (args : Array Value) (xs : List Int) : Prop := ∀ w, Calls Tryd.prog f args w fun e w' => ∃ v, e = .returned v ∧ IntsR w' v xs ∧ Below w.heap.size w w'
theorem MakI.calls {f : Nat} {args : Array Value} {xs : List Int} (h : MakI f args xs) {W0 w : World} (hs : Since W0 w) {R : Ending → World → Prop} (k : ∀ v w', IntsR w' v xs → Below w.heap.size w w' → Since W0 w' → R (.returned v) w') : Calls Tryd.prog f args w R :=
  (h w).mono fun _ _ ⟨v, he, ho, hb⟩ => by subst he; exact k v _ ho hb (hs.step hb)
def all18 : List Int := (List.range 18).map fun (i : Nat) => (i : Int)
theorem all_mak : MakI 14 #[] all18 := fun w => (all_any w).mono fun _ _ ⟨v, he, ho, hb⟩ => ⟨v, he, Ints.read (t := 22) (base := w.heap.size) (by unfold Ints; exact ho), hb⟩

set_option maxHeartbeats 1000000 in
theorem rall_mak : MakI 15 #[] all18 := by
  intro w
  refine Calls.mono (R := fun e w' => ∃ v, e = .returned v ∧ w'.ownsRow w.heap.size 22 1 v 18 (allV 18) ∧ Below w.heap.size w w') ?_ fun _ _ ⟨v, he, ho, hb⟩ => ⟨v, he, Ints.read (t := 22) (base := w.heap.size) (by unfold Ints; exact ho), hb⟩
  go_enter Tryd.func15, Tryd.ntmps15
  go_wp2_with fail
  go_loopw [1, 2] (fun v i wr => ∃ k : Nat, k ≤ 18 ∧ i = .int .i64 (k : Int) ∧ Hid (wr.ownsRow w.heap.size 22 1 v k (allV k)) ∧ Hid (Since w wr)) (fun _ i _ => 18 - (intOf i).toNat)
  case atStart => exact ⟨0, by omega, rfl, Lib.hid (World.ownsRow_nil _ _ _ _), Lib.hid (Since.refl w)⟩
  case round =>
    obtain ⟨k, hk, rfl, HO, HS⟩ := hrel
    by_cases hlt : k < 18
    · have hk9 : k ≤ 1099511627776 := by omega
      go_wp2_with (at_builtin; refine app_one elemI rfl _ _ (by rfl) w wr _ k _ (by rfl) HO.out HS.out _ (by rfl) rfl hk9 (by decide) ?_)
      intro v' w2 hO2 hS2
      have HO2 := Lib.hid hO2
      clear hO2
      have HS2 := Lib.hid hS2
      clear hS2
      go_wp2_with fail
      go_roundw
      case rel => exact ⟨k + 1, by omega, by go_num, Lib.hid (by rw [allV_succ]; exact HO2.out), HS2⟩
      case measure => simp [intOf]; omega
    · obtain rfl : k = 18 := by omega
      go_wp2_with fail
      go_ret
      exact ⟨_, rfl, HO.out, HS.out⟩

def namesL : List ByteArray := tabN.map bs
set_option maxRecDepth 100000 in
theorem names_any (w : World) : Calls Tryd.prog 24 #[] w fun e w' => ∃ ad c, e = .returned (.slice (some ad) 18 c) ∧ ad.block < w'.heap.size ∧ (∀ i, i < 18 → w'.cell? (ad.add i) = some (.string (bs (tabN.getD i [])))) ∧ Below w.heap.size w w' := by
  go_enter Tryd.func24, Tryd.ntmps24
  go_wp2_with fail
  go_ret
  refine ⟨_, _, rfl, by simp, fun i hi => ?_, (Below.refl _ _).alloc (Nat.le_refl _) _⟩
  have hadd : (⟨w.heap.size, 0, none⟩ : Addr).add i = ⟨w.heap.size, i, none⟩ := by unfold Addr.add; split <;> simp_all
  rw [hadd, (World.rowIs_alloc w _ _ (fun k => .string (bs (tabN.getD k []))) (fun k hk => by
    have hkk : k = 0 ∨ k = 1 ∨ k = 2 ∨ k = 3 ∨ k = 4 ∨ k = 5 ∨ k = 6 ∨ k = 7 ∨ k = 8 ∨ k = 9 ∨ k = 10 ∨ k = 11 ∨ k = 12 ∨ k = 13 ∨ k = 14 ∨ k = 15 ∨ k = 16 ∨ k = 17 := by simp at hk; omega
    rcases hkk with rfl | rfl | rfl | rfl | rfl | rfl | rfl | rfl | rfl | rfl | rfl | rfl | rfl | rfl | rfl | rfl | rfl | rfl <;> rfl)).cell (by simpa using hi)]

set_option maxHeartbeats 1000000 in
theorem rname_in (e : Nat) (he : e < 18) (X : ByteArray) (hX : X = bs (tabN.getD e [])) : Mak 10 #[.int .i64 (e : Int)] (.string X) := by
  intro w
  have hei : (e : Int) < 18 := by omega
  have HX := Lib.hid hX
  clear hX
  go_enter Tryd.func10, Tryd.ntmps10
  go_wp2_with fail
  refine (names_any w).mono ?_
  rintro ev w1 ⟨ad, c, rfl, hlt, hc, hb⟩
  have hce := hc e he
  rw [← HX.out] at hce
  have Hb := Lib.hid hb
  clear hb
  clear hc hlt
  go_wp2_with fail
  go_ret
  exact ⟨rfl, Hb.out⟩
set_option maxHeartbeats 1000000 in
theorem rname_out (e : Int) (he : ¬ (0 ≤ e ∧ e < 18)) : Mak 10 #[.int .i64 e] (.string ⟨#[]⟩) := by
  intro w
  by_cases h0 : e < 0
  · clear he
    go_enter Tryd.func10, Tryd.ntmps10
    go_wp2_with fail
    refine (names_any w).mono ?_
    rintro ev w1 ⟨ad, c, rfl, hlt, hc, hb⟩
    have Hb := Lib.hid hb
    clear hb
    clear hc hlt
    go_wp2_with fail
    go_ret
    exact ⟨rfl, Hb.out⟩
  · have h1 : 18 ≤ e := by omega
    clear he
    go_enter Tryd.func10, Tryd.ntmps10
    go_wp2_with fail
    refine (names_any w).mono ?_
    rintro ev w1 ⟨ad, c, rfl, hlt, hc, hb⟩
    have Hb := Lib.hid hb
    clear hb
    clear hc hlt
    go_wp2_with fail
    go_ret
    exact ⟨rfl, Hb.out⟩

set_option maxHeartbeats 4000000 in
theorem rby_mak (n : ByteArray) (hm : n.size ≤ 1000000) : Mak 8 #[.string n] (.tuple #[.int .i64 (((placeN n.data.toList).getD 0 : Nat) : Int), .bool (placeN n.data.toList).isSome]) := by
  intro w
  obtain ⟨P, hP⟩ : ∃ P, P = placeN n.data.toList := ⟨_, rfl⟩
  rw [← hP]
  obtain ⟨N, hN⟩ : ∃ N : Nat → ByteArray, ∀ i, bs (tabN.getD i []) = N i := ⟨_, fun i => rfl⟩
  have HP := Lib.hid hP
  clear hP
  go_enter Tryd.func8, Tryd.ntmps8
  go_wp2_with fail
  refine (names_any w).mono ?_
  rintro ev w1 ⟨ad, c, rfl, hlt0, hc, hb⟩
  have hc' : ∀ i, i < 18 → w1.cell? (ad.add i) = some (.string (N i)) := fun i hi => by rw [← hN i]; exact hc i hi
  have Hb := Lib.hid hb
  clear hb
  have Hc' := Lib.hid hc'
  clear hc'
  have HN := Lib.hid hN
  clear hN
  clear hc hlt0
  go_wp2_with fail
  go_loop [5] (fun i => ∃ k : Nat, k ≤ 18 ∧ i = .int .i64 (k : Int) ∧ Hid (∀ j, j < k → n ≠ N j)) (fun i => 18 - (intOf i).toNat)
  case atStart => exact ⟨0, by omega, rfl, Lib.hid (fun j hj => by omega)⟩
  case round =>
    obtain ⟨k, hk, rfl, HNO⟩ := hrel
    by_cases hlt : k < 18
    · have hce := Hc'.out k hlt
      by_cases hq : n = N k
      · have hqb := str_eq_t hq.symm
        have hno : P = some k := HP.out.trans (placeN_at _ k hlt (by rw [hq, ← HN.out k, list_bs]))
        subst hno
        clear hq HP
        go_wp2_with fail
        go_ret2
        exact ⟨rfl, Hb.out⟩
      · have hqb := str_ne_f (fun h => hq h.symm : N k ≠ n)
        have Hq := Lib.hid hq
        clear hq
        go_wp2_with fail
        go_round
        case rel => exact ⟨k + 1, by omega, by go_num, Lib.hid (fun j hj => by
          by_cases h : j = k
          · rw [h]; exact Hq.out
          · exact HNO.out j (by omega))⟩
        case measure => simp [intOf]; omega
    · obtain rfl : k = 18 := by omega
      have hno : P = none := by
        rw [HP.out]
        unfold placeN
        rw [List.find?_eq_none]
        intro i hi h9
        have h8 : n = N i := by rw [← HN.out i]; apply ba_ext; rw [list_bs]; exact (beq_iff_eq.1 h9).symm
        exact HNO.out i (List.mem_range.1 hi) h8
      subst hno
      clear HP
      go_wp2_with fail
      go_ret2
      exact ⟨rfl, Hb.out⟩

set_option maxHeartbeats 4000000 in
theorem rclass_in (e : Nat) (he : e < 18) (c : Int) (hc : c = tabC.getD e 0) : Ret 12 #[.int .i64 (e : Int)] (.int .i64 c) := by
  intro w
  subst hc
  have hkk : e = 0 ∨ e = 1 ∨ e = 2 ∨ e = 3 ∨ e = 4 ∨ e = 5 ∨ e = 6 ∨ e = 7 ∨ e = 8 ∨ e = 9 ∨ e = 10 ∨ e = 11 ∨ e = 12 ∨ e = 13 ∨ e = 14 ∨ e = 15 ∨ e = 16 ∨ e = 17 := by omega
  clear he
  rcases hkk with rfl | rfl | rfl | rfl | rfl | rfl | rfl | rfl | rfl | rfl | rfl | rfl | rfl | rfl | rfl | rfl | rfl | rfl
  all_goals
    go_enter Tryd.func12, Tryd.ntmps12
    go_wp2_with fail
    go_ret
    exact ⟨rfl, rfl⟩
set_option maxHeartbeats 4000000 in
theorem rclass_out (e : Int) (he : ¬ (0 ≤ e ∧ e < 18)) : Ret 12 #[.int .i64 e] (.int .i64 (-1)) := by
  intro w
  have n0 : (e == 0) = false := by rw [beq_eq_false_iff_ne]; omega
  have n1 : (e == 1) = false := by rw [beq_eq_false_iff_ne]; omega
  have n2 : (e == 2) = false := by rw [beq_eq_false_iff_ne]; omega
  have n3 : (e == 3) = false := by rw [beq_eq_false_iff_ne]; omega
  have n4 : (e == 4) = false := by rw [beq_eq_false_iff_ne]; omega
  have n5 : (e == 5) = false := by rw [beq_eq_false_iff_ne]; omega
  have n6 : (e == 6) = false := by rw [beq_eq_false_iff_ne]; omega
  have n7 : (e == 7) = false := by rw [beq_eq_false_iff_ne]; omega
  have n8 : (e == 8) = false := by rw [beq_eq_false_iff_ne]; omega
  have n9 : (e == 9) = false := by rw [beq_eq_false_iff_ne]; omega
  have n10 : (e == 10) = false := by rw [beq_eq_false_iff_ne]; omega
  have n11 : (e == 11) = false := by rw [beq_eq_false_iff_ne]; omega
  have n12 : (e == 12) = false := by rw [beq_eq_false_iff_ne]; omega
  have n13 : (e == 13) = false := by rw [beq_eq_false_iff_ne]; omega
  have n14 : (e == 14) = false := by rw [beq_eq_false_iff_ne]; omega
  have n15 : (e == 15) = false := by rw [beq_eq_false_iff_ne]; omega
  have n16 : (e == 16) = false := by rw [beq_eq_false_iff_ne]; omega
  have n17 : (e == 17) = false := by rw [beq_eq_false_iff_ne]; omega
  clear he
  go_enter Tryd.func12, Tryd.ntmps12
  go_wp2_with fail
  go_ret
  exact ⟨rfl, rfl⟩

set_option maxHeartbeats 1000000 in
theorem rtold_0 (g : Bool) : Mak 22 #[.int .i64 0, .bool g] (.bool g) := by
  intro w
  have H0 := Lib.hid (Since.refl w)
  go_enter Tryd.func22, Tryd.ntmps22
  go_wp2_with fail
  go_ret
  exact ⟨rfl, H0.out⟩
set_option maxHeartbeats 1000000 in
theorem rtold_in (e : Nat) (he : e < 18) (h0 : 0 < e) (g : Bool) (X : ByteArray) (hX : X.size ≠ 0) (c1 : Mak 10 #[.int .i64 (e : Int)] (.string X)) : Mak 22 #[.int .i64 (e : Int), .bool g] (.bool (!g)) := by
  intro w
  have H0 := Lib.hid (Since.refl w)
  have hne : ((e : Int) == 0) = false := by rw [beq_eq_false_iff_ne]; omega
  have hx := some_bytes X (by omega)
  clear hX
  go_enter Tryd.func22, Tryd.ntmps22
  go_wp2_with fail
  refine (c1).calls H0.out ?_
  intro w1 h1
  have H1 := Lib.hid h1
  clear h1
  go_wp2_with fail
  go_ret
  exact ⟨rfl, H1.out⟩
set_option maxHeartbeats 1000000 in
theorem rtold_out (e : Int) (he : ¬ (0 ≤ e ∧ e < 18)) (g : Bool) : Mak 22 #[.int .i64 e, .bool g] (.bool false) := by
  intro w
  have H0 := Lib.hid (Since.refl w)
  have hne : (e == 0) = false := by rw [beq_eq_false_iff_ne]; omega
  have c1 := rname_out e he
  clear he
  go_enter Tryd.func22, Tryd.ntmps22
  go_wp2_with fail
  refine (c1).calls H0.out ?_
  intro w1 h1
  have H1 := Lib.hid h1
  clear h1
  go_wp2_with fail
  go_ret
  exact ⟨rfl, H1.out⟩
end Fault
end Go.Proofs.YtcdjpdncgaeinaaDoor
