/- Joined texts. -/
-- PACK: YtgfdomdbjiflmaaDoorRecK
import Derived.Test.YtgfdomdbjiflmaaDoorDj32
import Derived.Test.YtgfdomdbjiflmaaDoorDj25
import Derived.Test.YtgfdomdbjiflmaaDoorDj37
import Derived.Test.YtgfdomdbjiflmaaDoorDj6

/- Calls that are handed records; record.Check, and the reference's. -/
namespace Go.Proofs.YtgfdomdbjiflmaaDoor
open Go.RowKit
namespace Rec
open Att Kind
/-- calls that are handed a record with attributes L -/
def RdR (f : Nat) (L : List A2) (args : Value → Array Value) (v : Value) : Prop := ∀ w x, Tab2 w → AttsS w x L → Calls Tryd.prog f (args x) w fun e w' => e = .returned v ∧ Below w.heap.size w w'
set_option maxRecDepth 100000 in
theorem RdR.calls0 {f : Nat} {L : List A2} {args : Value → Array Value} {v x : Value} (h : RdR f L args v) {w : World} (hT : Tab2 w) (hx : AttsS w x L) {R : Ending → World → Prop} (k : ∀ w', Since w w' → R (.returned v) w') : Calls Tryd.prog f (args x) w R :=
  (h w x hT hx).mono fun _ _ ⟨he, hb⟩ => by subst he; exact k _ hb
/-- a record's value -/
abbrev rv (K : Int) (k u m v e : ByteArray) (x : Value) : Value := .agg #[.int .i64 K, .string k, x, .string u, .string m, .string v, .string e]
def recE (K : Int) (k : ByteArray) (L : List A2) : Int := if chkE (rowOf K) k.data.toList ≠ 0 then chkE (rowOf K) k.data.toList else attE L
theorem hbal {w : World} {K : World → Prop} [Kp K] {g : Nat} {C : Array Value} {W : World} {o : Obj} (h : Hid (HB w K g C W)) : Hid (HB w K g C (W.alloc o)) := hbstep ((Below.refl _ _).alloc (Nat.le_refl _) o) h
set_option maxRecDepth 100000 in
theorem chk_bad (K : Int) (k u m v e : ByteArray) (L : List A2) (E : Int) (hE : (E != 0) = true) (c1 : KMk Tab2 75 #[.int .i64 K, .string k] (.int .i64 E)) : RdR 56 L (fun x => #[rv K k u m v e x]) (.int .i64 E) := by
  intro w x hT hx
  obtain ⟨A, q, rfl, hq1, hq2⟩ := hx.slice
  have hp := Lib.hid (hb_new w Tab2 hT #[.int .i64 K, .string k, .slice A L.length q, .string u, .string m, .string v, .string e] 26)
  have HX := Lib.hid (hx.since hp.out.since)
  have HS := Lib.hid hp.out.since
  obtain ⟨_, m0, m1, m2, m3, m4, m5, m6⟩ := hb7 hp
  clear hx hT
  go_enter Tryd.func56, Tryd.ntmps56
  go_wp2_with fail
  clear m0 m1 m2 m3 m4 m5 m6
  refine (c1.calls0 hp.out.tabs) ?_
  intro w1 h1
  replace HS := Lib.hid (HS.out.step (by first | exact h1 | exact (Since.alloc (Since.refl _) _).step h1 | exact (Since.alloc (Since.alloc (Since.refl _) _) _).step h1 | exact (Since.drew (Since.refl _)).step h1 | exact (Since.alloc (Since.alloc (Since.alloc (Since.refl _) _) _) _).step h1))
  clear h1
  go_wp2_with fail
  go_ret
  exact ⟨rfl, HS.out⟩
set_option maxRecDepth 100000 in
theorem chk_ok (K : Int) (k u m v e : ByteArray) (L : List A2) (E : Int) (c1 : KMk Tab2 75 #[.int .i64 K, .string k] (.int .i64 0)) (c2 : RdA 76 L (fun x => #[x]) (.int .i64 E)) : RdR 56 L (fun x => #[rv K k u m v e x]) (.int .i64 E) := by
  intro w x hT hx
  obtain ⟨A, q, rfl, hq1, hq2⟩ := hx.slice
  have hp := Lib.hid (hb_new w Tab2 hT #[.int .i64 K, .string k, .slice A L.length q, .string u, .string m, .string v, .string e] 26)
  have HX := Lib.hid (hx.since hp.out.since)
  have HS := Lib.hid hp.out.since
  obtain ⟨_, m0, m1, m2, m3, m4, m5, m6⟩ := hb7 hp
  clear hx hT
  go_enter Tryd.func56, Tryd.ntmps56
  go_wp2_with fail
  clear m0 m1 m2 m3 m4 m5 m6
  refine (c1.calls0 hp.out.tabs) ?_
  intro w1 h1
  replace hp := Lib.hid (hp.out.step (by first | exact h1 | exact (Since.alloc (Since.refl _) _).step h1 | exact (Since.alloc (Since.alloc (Since.refl _) _) _).step h1 | exact (Since.drew (Since.refl _)).step h1 | exact (Since.alloc (Since.alloc (Since.alloc (Since.refl _) _) _) _).step h1))
  replace HX := Lib.hid (HX.out.since (by first | exact h1 | exact (Since.alloc (Since.refl _) _).step h1 | exact (Since.alloc (Since.alloc (Since.refl _) _) _).step h1 | exact (Since.drew (Since.refl _)).step h1 | exact (Since.alloc (Since.alloc (Since.alloc (Since.refl _) _) _) _).step h1))
  replace HS := Lib.hid (HS.out.step (by first | exact h1 | exact (Since.alloc (Since.refl _) _).step h1 | exact (Since.alloc (Since.alloc (Since.refl _) _) _).step h1 | exact (Since.drew (Since.refl _)).step h1 | exact (Since.alloc (Since.alloc (Since.alloc (Since.refl _) _) _) _).step h1))
  clear h1
  obtain ⟨_, m0, m1, m2, m3, m4, m5, m6⟩ := hb7 hp
  go_wp2_with fail
  clear m0 m1 m2 m3 m4 m5 m6
  refine (c2.calls0 HX.out) ?_
  intro w2 h2
  replace HS := Lib.hid (HS.out.step (by first | exact h2 | exact (Since.alloc (Since.refl _) _).step h2 | exact (Since.alloc (Since.alloc (Since.refl _) _) _).step h2 | exact (Since.drew (Since.refl _)).step h2 | exact (Since.alloc (Since.alloc (Since.alloc (Since.refl _) _) _) _).step h2))
  clear h2
  go_wp2_with fail
  go_ret
  exact ⟨rfl, HS.out⟩
theorem check_rec (K : Int) (k u m v e : ByteArray) (L : List A2) (hk : k.size ≤ 100000) (E : Int) (hE : E = recE K k L) : RdR 56 L (fun x => #[rv K k u m v e x]) (.int .i64 E) := by
  subst hE
  have c1 := check_k K k (by omega) _ rfl
  unfold recE
  by_cases h : chkE (rowOf K) k.data.toList = 0
  · rw [if_neg (by omega)]
    rw [h] at c1
    exact chk_ok K k u m v e L _ c1 (check_rd L _ rfl)
  · rw [if_pos h]
    exact chk_bad K k u m v e L _ (by rw [bne_iff_ne]; exact h) c1
/-- clavigerplain.Record -/
def plainB (k u m v e : ByteArray) (L : List A2) : Bool := decide (k.size ≤ 100) && fewB L 40 && Plain.headB u m v e
set_option maxRecDepth 100000 in
set_option maxHeartbeats 2000000 in
theorem plain_core (K : Int) (k u m v e : ByteArray) (L : List A2) (q1 q2 q3 Q : Bool) (hQ : Q = (q1 && q2 && q3)) (t1 : decide ((k.size : Int) ≤ 100) = q1) (c1 : RdA 37 L (fun x => #[x, .int .i64 40]) (.bool q2))
    (c2 : Mak 38 #[.agg #[.string u, .string m, .string v, .string e]] (.bool q3)) : RdR 8 L (fun x => #[rv K k u m v e x]) (.bool Q) := by
  subst hQ
  cases q1
  · intro w x hT hx
    obtain ⟨A, q, rfl, hq1, hq2⟩ := hx.slice
    have hp := Lib.hid (hb_new w Tab2 hT #[.int .i64 K, .string k, .slice A L.length q, .string u, .string m, .string v, .string e] 26)
    have HX := Lib.hid (hx.since hp.out.since)
    have HS := Lib.hid hp.out.since
    obtain ⟨_, m0, m1, m2, m3, m4, m5, m6⟩ := hb7 hp
    clear hx hT
    go_enter Tryd.func8, Tryd.ntmps8
    go_wp2_with fail
    clear m0 m1 m2 m3 m4 m5 m6
    go_ret
    exact ⟨rfl, HS.out⟩
  · cases q2
    · intro w x hT hx
      obtain ⟨A, q, rfl, hq1, hq2⟩ := hx.slice
      have hp := Lib.hid (hb_new w Tab2 hT #[.int .i64 K, .string k, .slice A L.length q, .string u, .string m, .string v, .string e] 26)
      have HX := Lib.hid (hx.since hp.out.since)
      have HS := Lib.hid hp.out.since
      obtain ⟨_, m0, m1, m2, m3, m4, m5, m6⟩ := hb7 hp
      clear hx hT
      go_enter Tryd.func8, Tryd.ntmps8
      go_wp2_with fail
      clear m0 m1 m2 m3 m4 m5 m6
      refine (c1.calls0 HX.out) ?_
      intro w1 h1
      replace HS := Lib.hid (HS.out.step (by first | exact h1 | exact (Since.alloc (Since.refl _) _).step h1 | exact (Since.alloc (Since.alloc (Since.refl _) _) _).step h1 | exact (Since.drew (Since.refl _)).step h1 | exact (Since.alloc (Since.alloc (Since.alloc (Since.refl _) _) _) _).step h1))
      clear h1
      go_wp2_with fail
      go_ret
      exact ⟨rfl, HS.out⟩
    · intro w x hT hx
      obtain ⟨A, q, rfl, hq1, hq2⟩ := hx.slice
      have hp := Lib.hid (hb_new w Tab2 hT #[.int .i64 K, .string k, .slice A L.length q, .string u, .string m, .string v, .string e] 26)
      have HX := Lib.hid (hx.since hp.out.since)
      have HS := Lib.hid hp.out.since
      obtain ⟨_, m0, m1, m2, m3, m4, m5, m6⟩ := hb7 hp
      clear hx hT
      go_enter Tryd.func8, Tryd.ntmps8
      go_wp2_with fail
      clear m0 m1 m2 m3 m4 m5 m6
      refine (c1.calls0 HX.out) ?_
      intro w1 h1
      replace hp := Lib.hid (hp.out.step (by first | exact h1 | exact (Since.alloc (Since.refl _) _).step h1 | exact (Since.alloc (Since.alloc (Since.refl _) _) _).step h1 | exact (Since.drew (Since.refl _)).step h1 | exact (Since.alloc (Since.alloc (Since.alloc (Since.refl _) _) _) _).step h1))
      replace HX := Lib.hid (HX.out.since (by first | exact h1 | exact (Since.alloc (Since.refl _) _).step h1 | exact (Since.alloc (Since.alloc (Since.refl _) _) _).step h1 | exact (Since.drew (Since.refl _)).step h1 | exact (Since.alloc (Since.alloc (Since.alloc (Since.refl _) _) _) _).step h1))
      replace HS := Lib.hid (HS.out.step (by first | exact h1 | exact (Since.alloc (Since.refl _) _).step h1 | exact (Since.alloc (Since.alloc (Since.refl _) _) _).step h1 | exact (Since.drew (Since.refl _)).step h1 | exact (Since.alloc (Since.alloc (Since.alloc (Since.refl _) _) _) _).step h1))
      clear h1
      obtain ⟨_, m0, m1, m2, m3, m4, m5, m6⟩ := hb7 hp
      go_wp2_with fail
      clear m0 m1 m2 m3 m4 m5 m6
      refine (c2.calls0) ?_
      intro w2 h2
      replace HS := Lib.hid (HS.out.step (by first | exact h2 | exact (Since.alloc (Since.refl _) _).step h2 | exact (Since.alloc (Since.alloc (Since.refl _) _) _).step h2 | exact (Since.drew (Since.refl _)).step h2 | exact (Since.alloc (Since.alloc (Since.alloc (Since.refl _) _) _) _).step h2))
      clear h2
      go_wp2_with fail
      go_ret
      exact ⟨rfl, HS.out⟩
theorem plain_rec (K : Int) (k u m v e : ByteArray) (L : List A2) : RdR 8 L (fun x => #[rv K k u m v e x]) (.bool (plainB k u m v e L)) := by
  have t1 : decide ((k.size : Int) ≤ 100) = decide (k.size ≤ 100) := by norm_cast
  exact plain_core K k u m v e L _ _ _ _ rfl t1 (few_rd L 40 (by decide) _ rfl) (Plain.head_mak u m v e _ rfl)
theorem plain_small {k u m v e : ByteArray} {L : List A2} (h : plainB k u m v e L = true) : k.size ≤ 100 ∧ fewB L 40 = true ∧ Plain.headB u m v e = true := by
  unfold plainB at h
  simp only [Bool.and_eq_true, decide_eq_true_eq] at h
  exact ⟨h.1.1, h.1.2, h.2⟩
end Rec
end Go.Proofs.YtgfdomdbjiflmaaDoor
