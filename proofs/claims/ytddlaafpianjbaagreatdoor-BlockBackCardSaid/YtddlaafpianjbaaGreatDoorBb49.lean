/- Joined texts. -/
-- PACK: YtddlaafpianjbaaGreatDoorBlockBackE
import Derived.Test.YtddlaafpianjbaaGreatDoorRows
import Derived.WalkKit
import Derived.ProofKit
import Derived.OpenShut
import Derived.Lib.Hide
import Derived.Test.YtddlaafpianjbaaGreatDoorBb48
import Derived.Test.YtddlaafpianjbaaGreatDoorBb9
import Derived.Test.YtddlaafpianjbaaGreatDoorCards
import Derived.Test.YtddlaafpianjbaaGreatDoorTie
import Derived.LaidMore
import Derived.SevenTiedAt
import Derived.Stop.Joined
import Derived.Lay

/- The law BlockBack: where nothing is exported. -/
namespace Go.Proofs.YtddlaafpianjbaaGreatDoor.blockBack
open Go.ChangeShapes Go.WideShapes Go.ChangeAt Go.RowKit
open Att Block



set_option maxRecDepth 100000 in
set_option maxHeartbeats 4000000 in
theorem big_1 (kek : ByteArray) (w : World) (K : Int) (k : ByteArray) (A : Option Addr) (n q : Nat) (L : List A2) (u m v e : ByteArray) (pads : ByteArray) (hx : AttsS w (.slice A n q) L) (l1 : 100 < kek.size) (hT : K3 w) :
    Calls Tryz.prog 4 #[.string kek, .agg #[.int .i64 K, .string k, .slice A n q, .string u, .string m, .string v, .string e], .string pads] w fun x w' => x = .returned (.bool true) ∧ Since w w' := by
  have t1 : decide ((100 : Int) < (kek.size : Int)) = true := decide_eq_true (by omega)
  clear l1
  have hp := Lib.hid (bx_new (K := K) (k := k) (u := u) (m := m) (v := v) (e := e) hT hx)
  have c9 := awake_k
  obtain ⟨_, m0, m1, m2, m3, m4, m5, m6⟩ := bx7 hp
  clear hx hT
  go_enter Tryz.func4, Tryz.ntmps4
  go_wp2_with fail
  clear m0 m1 m2 m3 m4 m5 m6
  refine (c9.calls0 hp.out.hb.tabs) ?_
  intro w9 h9
  replace hp := bxstep (by first | exact h9 | exact (Since.alloc (Since.refl _) _).step h9) hp
  clear h9
  go_wp2_with fail
  go_ret
  exact ⟨rfl, hp.out.hb.since⟩

set_option maxRecDepth 100000 in
set_option maxHeartbeats 4000000 in
theorem big_2 (kek : ByteArray) (w : World) (K : Int) (k : ByteArray) (A : Option Addr) (n q : Nat) (L : List A2) (u m v e : ByteArray) (pads : ByteArray) (hx : AttsS w (.slice A n q) L) (l1 : kek.size ≤ 100) (c0 : Rec.RdR 6 L (fun x => #[rv K k u m v e x]) (.bool false)) (hT : K3 w) :
    Calls Tryz.prog 4 #[.string kek, .agg #[.int .i64 K, .string k, .slice A n q, .string u, .string m, .string v, .string e], .string pads] w fun x w' => x = .returned (.bool true) ∧ Since w w' := by
  have t1 : decide ((100 : Int) < (kek.size : Int)) = false := decide_eq_false (by omega)
  clear l1
  have hp := Lib.hid (bx_new (K := K) (k := k) (u := u) (m := m) (v := v) (e := e) hT hx)
  have c9 := awake_k
  obtain ⟨_, m0, m1, m2, m3, m4, m5, m6⟩ := bx7 hp
  clear hx hT
  go_enter Tryz.func4, Tryz.ntmps4
  go_wp2_with fail
  clear m0 m1 m2 m3 m4 m5 m6
  refine (c0.calls0 hp.out.hb.tabs.t2 hp.out.atts) ?_
  intro w1 h1
  replace hp := bxstep (by first | exact h1 | exact (Since.alloc (Since.refl _) _).step h1) hp
  clear h1
  obtain ⟨_, m0, m1, m2, m3, m4, m5, m6⟩ := bx7 hp
  go_wp2_with fail
  clear m0 m1 m2 m3 m4 m5 m6
  refine (c9.calls0 hp.out.hb.tabs) ?_
  intro w9 h9
  replace hp := bxstep (by first | exact h9 | exact (Since.alloc (Since.refl _) _).step h9) hp
  clear h9
  go_wp2_with fail
  go_ret
  exact ⟨rfl, hp.out.hb.since⟩

set_option maxRecDepth 100000 in
set_option maxHeartbeats 4000000 in
theorem big_3 (kek : ByteArray) (w : World) (K : Int) (k : ByteArray) (A : Option Addr) (n q : Nat) (L : List A2) (u m v e : ByteArray) (pads : ByteArray) (hx : AttsS w (.slice A n q) L) (l1 : kek.size ≤ 100) (l2 : 200 < pads.size) (c0 : Rec.RdR 6 L (fun x => #[rv K k u m v e x]) (.bool true)) (hT : K3 w) :
    Calls Tryz.prog 4 #[.string kek, .agg #[.int .i64 K, .string k, .slice A n q, .string u, .string m, .string v, .string e], .string pads] w fun x w' => x = .returned (.bool true) ∧ Since w w' := by
  have t1 : decide ((100 : Int) < (kek.size : Int)) = false := decide_eq_false (by omega)
  have t2 : decide ((200 : Int) < (pads.size : Int)) = true := decide_eq_true (by omega)
  clear l1 l2
  have hp := Lib.hid (bx_new (K := K) (k := k) (u := u) (m := m) (v := v) (e := e) hT hx)
  have c9 := awake_k
  obtain ⟨_, m0, m1, m2, m3, m4, m5, m6⟩ := bx7 hp
  clear hx hT
  go_enter Tryz.func4, Tryz.ntmps4
  go_wp2_with fail
  clear m0 m1 m2 m3 m4 m5 m6
  refine (c0.calls0 hp.out.hb.tabs.t2 hp.out.atts) ?_
  intro w1 h1
  replace hp := bxstep (by first | exact h1 | exact (Since.alloc (Since.refl _) _).step h1) hp
  clear h1
  obtain ⟨_, m0, m1, m2, m3, m4, m5, m6⟩ := bx7 hp
  go_wp2_with fail
  clear m0 m1 m2 m3 m4 m5 m6
  refine (c9.calls0 hp.out.hb.tabs) ?_
  intro w9 h9
  replace hp := bxstep (by first | exact h9 | exact (Since.alloc (Since.refl _) _).step h9) hp
  clear h9
  go_wp2_with fail
  go_ret
  exact ⟨rfl, hp.out.hb.since⟩


set_option maxRecDepth 100000 in
set_option maxHeartbeats 8000000 in
theorem err_rec (kek : ByteArray) (w : World) (K : Int) (k : ByteArray) (A : Option Addr) (n q : Nat) (L : List A2) (u m v e : ByteArray) (pads : ByteArray) (hx : AttsS w (.slice A n q) L) (l1 : kek.size ≤ 100) (l2 : pads.size ≤ 200) (c0 : Rec.RdR 6 L (fun x => #[rv K k u m v e x]) (.bool true)) (E : Int) (hE : (E != 0) = true) (c1 : RdE 8 kek pads K k u m v e L (.tuple #[.string ⟨#[]⟩, .int .i64 E])) (F : Int) (hF : (F == 0) = false) (c2 : Rec.RdR 15 L (fun x => #[rv K k u m v e x]) (.int .i64 F)) (hT : K3 w) :
    Calls Tryz.prog 4 #[.string kek, .agg #[.int .i64 K, .string k, .slice A n q, .string u, .string m, .string v, .string e], .string pads] w fun x w' => x = .returned (.bool true) ∧ Since w w' := by
  have t1 : decide ((100 : Int) < (kek.size : Int)) = false := decide_eq_false (by omega)
  have t2 : decide ((200 : Int) < (pads.size : Int)) = false := decide_eq_false (by omega)
  clear l1 l2
  have hp := Lib.hid (bx_new (K := K) (k := k) (u := u) (m := m) (v := v) (e := e) hT hx)
  have c9 := awake_k
  obtain ⟨_, m0, m1, m2, m3, m4, m5, m6⟩ := bx7 hp
  clear hx hT
  go_enter Tryz.func4, Tryz.ntmps4
  go_wp2_with fail
  clear m0 m1 m2 m3 m4 m5 m6
  refine (c0.calls0 hp.out.hb.tabs.t2 hp.out.atts) ?_
  intro w1 h1
  replace hp := bxstep (by first | exact h1 | exact (Since.alloc (Since.refl _) _).step h1) hp
  clear h1
  obtain ⟨_, m0, m1, m2, m3, m4, m5, m6⟩ := bx7 hp
  go_wp2_with fail
  clear m0 m1 m2 m3 m4 m5 m6
  refine (c1.calls0 hp.out.hb.tabs hp.out.atts) ?_
  intro w2 h2
  replace hp := bxstep (by first | exact h2 | exact (Since.alloc (Since.refl _) _).step h2) hp
  clear h2
  go_wp2_with fail
  refine RegW.start (fun W' => Hid (BX w w.heap.size K k u m v e (.slice A n q) L W') ∧ W'.cell? ⟨w.heap.size, 0, none⟩ = some (.int .i64 K) ∧ W'.cell? ⟨w.heap.size, 1, none⟩ = some (.string k) ∧ W'.cell? ⟨w.heap.size, 2, none⟩ = some (.slice A n q) ∧ W'.cell? ⟨w.heap.size, 3, none⟩ = some (.string u) ∧ W'.cell? ⟨w.heap.size, 4, none⟩ = some (.string m) ∧ W'.cell? ⟨w.heap.size, 5, none⟩ = some (.string v) ∧ W'.cell? ⟨w.heap.size, 6, none⟩ = some (.string e)) 35 (by kernel_rfl) (bx7 (bxdrew hp)) (fun hHeld => ?_)
  replace hp := bxdrew hp
  refine RegW.take (i := 0) (v := ?_) rfl (by kernel_rfl) (by kernel_rfl) (by kernel_rfl) (by kernel_rfl) (fun _ _ _ h => h) (Or.inl ⟨by kernel_rfl, ?_⟩) (by assumption) ?_
  rotate_left
  · intro w hSw
    go_split_ands
    go_simp
    try with_reducible rfl
  try simp only [Act.put, List.setIfInBounds_toArray]
  refine RegW.only (i := 1) rfl (by kernel_rfl) (fun K hK => ?_)
  go_simp
  go_at_call 15
  refine c2.calls0 hp.out.hb.tabs.t2 hp.out.atts ?_
  intro w2 h2
  replace hp := bxstep h2 hp
  clear h2
  refine hK.out _ _ (bx7 hp) (fun hHeld => ?_)
  clear hK K
  try simp only [Act.put, List.setIfInBounds_toArray, List.set_cons_zero, List.set_cons_succ]
  refine RegW.take (i := 2) (v := ?_) rfl (by kernel_rfl) (by kernel_rfl) (by kernel_rfl) (by kernel_rfl) (fun _ _ _ h => h) (Or.inl ⟨by kernel_rfl, ?_⟩) (by assumption) ?_
  rotate_left
  · intro w hSw
    go_split_ands
    go_simp
    try with_reducible rfl
  try simp only [Act.put, List.setIfInBounds_toArray]
  refine RegW.take (i := 3) (v := ?_) rfl (by kernel_rfl) (by kernel_rfl) (by kernel_rfl) (by kernel_rfl) (fun _ _ _ h => h) (Or.inl ⟨by kernel_rfl, ?_⟩) (by assumption) ?_
  rotate_left
  · intro w hSw
    go_split_ands
    go_simp
    try with_reducible rfl
  try simp only [Act.put]
  refine RegW.take (i := 4) (v := undef) rfl (by kernel_rfl) (by kernel_rfl) (by kernel_rfl) (by kernel_rfl) (fun _ _ _ h => h) (Or.inr ⟨by kernel_rfl, rfl⟩) (by assumption) ?_
  try simp only [Act.put]
  refine RegW.take (i := 5) (v := undef) rfl (by kernel_rfl) (by kernel_rfl) (by kernel_rfl) (by kernel_rfl) (fun _ _ _ h => h) (Or.inr ⟨by kernel_rfl, rfl⟩) (by assumption) ?_
  try simp only [Act.put]
  refine RegW.take (i := 6) (v := undef) rfl (by kernel_rfl) (by kernel_rfl) (by kernel_rfl) (by kernel_rfl) (fun _ _ _ h => h) (Or.inr ⟨by kernel_rfl, rfl⟩) (by assumption) ?_
  try simp only [Act.put]
  refine RegW.take (i := 7) (v := undef) rfl (by kernel_rfl) (by kernel_rfl) (by kernel_rfl) (by kernel_rfl) (fun _ _ _ h => h) (Or.inr ⟨by kernel_rfl, rfl⟩) (by assumption) ?_
  try simp only [Act.put]
  refine RegW.take (i := 8) (v := undef) rfl (by kernel_rfl) (by kernel_rfl) (by kernel_rfl) (by kernel_rfl) (fun _ _ _ h => h) (Or.inr ⟨by kernel_rfl, rfl⟩) (by assumption) ?_
  try simp only [Act.put]
  refine RegW.take (i := 9) (v := undef) rfl (by kernel_rfl) (by kernel_rfl) (by kernel_rfl) (by kernel_rfl) (fun _ _ _ h => h) (Or.inr ⟨by kernel_rfl, rfl⟩) (by assumption) ?_
  try simp only [Act.put]
  refine RegW.take (i := 10) (v := undef) rfl (by kernel_rfl) (by kernel_rfl) (by kernel_rfl) (by kernel_rfl) (fun _ _ _ h => h) (Or.inr ⟨by kernel_rfl, rfl⟩) (by assumption) ?_
  try simp only [Act.put]
  refine RegW.take (i := 11) (v := ?_) rfl (by kernel_rfl) (by kernel_rfl) (by kernel_rfl) (by kernel_rfl) (fun _ _ _ h => h) (Or.inl ⟨by kernel_rfl, ?_⟩) (by assumption) ?_
  rotate_left
  · intro w hSw
    go_split_ands
    go_simp
    try with_reducible rfl
  try simp only [Act.put]
  refine RegW.take (i := 12) (v := ?_) rfl (by kernel_rfl) (by kernel_rfl) (by kernel_rfl) (by kernel_rfl) (fun _ _ _ h => h) (Or.inl ⟨by kernel_rfl, ?_⟩) (by assumption) ?_
  rotate_left
  · intro w hSw
    go_split_ands
    go_simp
    try with_reducible rfl
  try simp only [Act.put]
  refine RegW.take (i := 13) (v := undef) rfl (by kernel_rfl) (by kernel_rfl) (by kernel_rfl) (by kernel_rfl) (fun _ _ _ h => h) (Or.inr ⟨by kernel_rfl, rfl⟩) (by assumption) ?_
  try simp only [Act.put]
  refine RegW.take (i := 14) (v := undef) rfl (by kernel_rfl) (by kernel_rfl) (by kernel_rfl) (by kernel_rfl) (fun _ _ _ h => h) (Or.inr ⟨by kernel_rfl, rfl⟩) (by assumption) ?_
  try simp only [Act.put]
  refine RegW.take (i := 15) (v := undef) rfl (by kernel_rfl) (by kernel_rfl) (by kernel_rfl) (by kernel_rfl) (fun _ _ _ h => h) (Or.inr ⟨by kernel_rfl, rfl⟩) (by assumption) ?_
  try simp only [Act.put]
  refine RegW.take (i := 16) (v := undef) rfl (by kernel_rfl) (by kernel_rfl) (by kernel_rfl) (by kernel_rfl) (fun _ _ _ h => h) (Or.inr ⟨by kernel_rfl, rfl⟩) (by assumption) ?_
  try simp only [Act.put]
  refine RegW.take (i := 17) (v := undef) rfl (by kernel_rfl) (by kernel_rfl) (by kernel_rfl) (by kernel_rfl) (fun _ _ _ h => h) (Or.inr ⟨by kernel_rfl, rfl⟩) (by assumption) ?_
  try simp only [Act.put]
  refine RegW.take (i := 18) (v := undef) rfl (by kernel_rfl) (by kernel_rfl) (by kernel_rfl) (by kernel_rfl) (fun _ _ _ h => h) (Or.inr ⟨by kernel_rfl, rfl⟩) (by assumption) ?_
  try simp only [Act.put]
  refine RegW.take (i := 19) (v := ?_) rfl (by kernel_rfl) (by kernel_rfl) (by kernel_rfl) (by kernel_rfl) (fun _ _ _ h => h) (Or.inl ⟨by kernel_rfl, ?_⟩) (by assumption) ?_
  rotate_left
  · intro w hSw
    go_split_ands
    go_simp
    try with_reducible rfl
  try simp only [Act.put]
  refine RegW.take (i := 20) (v := ?_) rfl (by kernel_rfl) (by kernel_rfl) (by kernel_rfl) (by kernel_rfl) (fun _ _ _ h => h) (Or.inl ⟨by kernel_rfl, ?_⟩) (by assumption) ?_
  rotate_left
  · intro w hSw
    go_split_ands
    go_simp
    try with_reducible rfl
  try simp only [Act.put]
  refine RegW.take (i := 21) (v := undef) rfl (by kernel_rfl) (by kernel_rfl) (by kernel_rfl) (by kernel_rfl) (fun _ _ _ h => h) (Or.inr ⟨by kernel_rfl, rfl⟩) (by assumption) ?_
  try simp only [Act.put]
  refine RegW.take (i := 22) (v := undef) rfl (by kernel_rfl) (by kernel_rfl) (by kernel_rfl) (by kernel_rfl) (fun _ _ _ h => h) (Or.inr ⟨by kernel_rfl, rfl⟩) (by assumption) ?_
  try simp only [Act.put]
  refine RegW.take (i := 23) (v := undef) rfl (by kernel_rfl) (by kernel_rfl) (by kernel_rfl) (by kernel_rfl) (fun _ _ _ h => h) (Or.inr ⟨by kernel_rfl, rfl⟩) (by assumption) ?_
  try simp only [Act.put]
  refine RegW.take (i := 24) (v := undef) rfl (by kernel_rfl) (by kernel_rfl) (by kernel_rfl) (by kernel_rfl) (fun _ _ _ h => h) (Or.inr ⟨by kernel_rfl, rfl⟩) (by assumption) ?_
  try simp only [Act.put]
  refine RegW.take (i := 25) (v := undef) rfl (by kernel_rfl) (by kernel_rfl) (by kernel_rfl) (by kernel_rfl) (fun _ _ _ h => h) (Or.inr ⟨by kernel_rfl, rfl⟩) (by assumption) ?_
  try simp only [Act.put]
  refine RegW.take (i := 26) (v := undef) rfl (by kernel_rfl) (by kernel_rfl) (by kernel_rfl) (by kernel_rfl) (fun _ _ _ h => h) (Or.inr ⟨by kernel_rfl, rfl⟩) (by assumption) ?_
  try simp only [Act.put]
  refine RegW.take (i := 27) (v := undef) rfl (by kernel_rfl) (by kernel_rfl) (by kernel_rfl) (by kernel_rfl) (fun _ _ _ h => h) (Or.inr ⟨by kernel_rfl, rfl⟩) (by assumption) ?_
  try simp only [Act.put]
  refine RegW.take (i := 28) (v := undef) rfl (by kernel_rfl) (by kernel_rfl) (by kernel_rfl) (by kernel_rfl) (fun _ _ _ h => h) (Or.inr ⟨by kernel_rfl, rfl⟩) (by assumption) ?_
  try simp only [Act.put]
  refine RegW.take (i := 29) (v := undef) rfl (by kernel_rfl) (by kernel_rfl) (by kernel_rfl) (by kernel_rfl) (fun _ _ _ h => h) (Or.inr ⟨by kernel_rfl, rfl⟩) (by assumption) ?_
  try simp only [Act.put]
  refine RegW.take (i := 30) (v := undef) rfl (by kernel_rfl) (by kernel_rfl) (by kernel_rfl) (by kernel_rfl) (fun _ _ _ h => h) (Or.inr ⟨by kernel_rfl, rfl⟩) (by assumption) ?_
  try simp only [Act.put]
  refine RegW.take (i := 31) (v := undef) rfl (by kernel_rfl) (by kernel_rfl) (by kernel_rfl) (by kernel_rfl) (fun _ _ _ h => h) (Or.inr ⟨by kernel_rfl, rfl⟩) (by assumption) ?_
  try simp only [Act.put]
  refine RegW.take (i := 32) (v := undef) rfl (by kernel_rfl) (by kernel_rfl) (by kernel_rfl) (by kernel_rfl) (fun _ _ _ h => h) (Or.inr ⟨by kernel_rfl, rfl⟩) (by assumption) ?_
  try simp only [Act.put]
  refine RegW.take (i := 33) (v := undef) rfl (by kernel_rfl) (by kernel_rfl) (by kernel_rfl) (by kernel_rfl) (fun _ _ _ h => h) (Or.inr ⟨by kernel_rfl, rfl⟩) (by assumption) ?_
  try simp only [Act.put]
  refine RegW.take (i := 34) (v := ?_) rfl (by kernel_rfl) (by kernel_rfl) (by kernel_rfl) (by kernel_rfl) (fun _ _ _ h => h) (Or.inl ⟨by kernel_rfl, ?_⟩) (by assumption) ?_
  rotate_left
  · intro w hSw
    go_split_ands
    go_simp
    try with_reducible rfl
  try simp only [Act.put]
  refine RegW.last rfl (by kernel_rfl) (by kernel_rfl) ?_
  clear hHeld
  go_wp2_with fail
  refine c9.calls0 hp.out.hb.tabs ?_
  intro w9 h9
  replace hp := bxstep h9 hp
  clear h9
  go_wp2_with fail
  go_ret
  exact ⟨rfl, hp.out.hb.since⟩

set_option maxRecDepth 100000 in
set_option maxHeartbeats 8000000 in
theorem err_tab (kek : ByteArray) (w : World) (K : Int) (k : ByteArray) (A : Option Addr) (n q : Nat) (L : List A2) (u m v e : ByteArray) (pads : ByteArray) (hx : AttsS w (.slice A n q) L) (l1 : kek.size ≤ 100) (l2 : pads.size ≤ 200) (c0 : Rec.RdR 6 L (fun x => #[rv K k u m v e x]) (.bool true)) (E : Int) (hE : (E != 0) = true) (c1 : RdE 8 kek pads K k u m v e L (.tuple #[.string ⟨#[]⟩, .int .i64 E])) (c2 : Rec.RdR 15 L (fun x => #[rv K k u m v e x]) (.int .i64 0)) (l : ByteArray) (c3 : Ret 17 #[.int .i64 K] (.string l)) (F : Int) (hF : (F == 0) = false) (c4 : Mak 16 #[.agg #[.string u, .string m, .string v, .string e], .string l] (.int .i64 F)) (hT : K3 w) :
    Calls Tryz.prog 4 #[.string kek, .agg #[.int .i64 K, .string k, .slice A n q, .string u, .string m, .string v, .string e], .string pads] w fun x w' => x = .returned (.bool true) ∧ Since w w' := by
  have t1 : decide ((100 : Int) < (kek.size : Int)) = false := decide_eq_false (by omega)
  have t2 : decide ((200 : Int) < (pads.size : Int)) = false := decide_eq_false (by omega)
  clear l1 l2
  have hp := Lib.hid (bx_new (K := K) (k := k) (u := u) (m := m) (v := v) (e := e) hT hx)
  have c9 := awake_k
  obtain ⟨_, m0, m1, m2, m3, m4, m5, m6⟩ := bx7 hp
  clear hx hT
  go_enter Tryz.func4, Tryz.ntmps4
  go_wp2_with fail
  clear m0 m1 m2 m3 m4 m5 m6
  refine (c0.calls0 hp.out.hb.tabs.t2 hp.out.atts) ?_
  intro w1 h1
  replace hp := bxstep (by first | exact h1 | exact (Since.alloc (Since.refl _) _).step h1) hp
  clear h1
  obtain ⟨_, m0, m1, m2, m3, m4, m5, m6⟩ := bx7 hp
  go_wp2_with fail
  clear m0 m1 m2 m3 m4 m5 m6
  refine (c1.calls0 hp.out.hb.tabs hp.out.atts) ?_
  intro w2 h2
  replace hp := bxstep (by first | exact h2 | exact (Since.alloc (Since.refl _) _).step h2) hp
  clear h2
  go_wp2_with fail
  refine RegW.start (fun W' => Hid (BX w w.heap.size K k u m v e (.slice A n q) L W') ∧ W'.cell? ⟨w.heap.size, 0, none⟩ = some (.int .i64 K) ∧ W'.cell? ⟨w.heap.size, 1, none⟩ = some (.string k) ∧ W'.cell? ⟨w.heap.size, 2, none⟩ = some (.slice A n q) ∧ W'.cell? ⟨w.heap.size, 3, none⟩ = some (.string u) ∧ W'.cell? ⟨w.heap.size, 4, none⟩ = some (.string m) ∧ W'.cell? ⟨w.heap.size, 5, none⟩ = some (.string v) ∧ W'.cell? ⟨w.heap.size, 6, none⟩ = some (.string e)) 35 (by kernel_rfl) (bx7 (bxdrew hp)) (fun hHeld => ?_)
  replace hp := bxdrew hp
  refine RegW.take (i := 0) (v := ?_) rfl (by kernel_rfl) (by kernel_rfl) (by kernel_rfl) (by kernel_rfl) (fun _ _ _ h => h) (Or.inl ⟨by kernel_rfl, ?_⟩) (by assumption) ?_
  rotate_left
  · intro w hSw
    go_split_ands
    go_simp
    try with_reducible rfl
  try simp only [Act.put, List.setIfInBounds_toArray]
  refine RegW.only (i := 1) rfl (by kernel_rfl) (fun K hK => ?_)
  go_simp
  go_at_call 15
  refine c2.calls0 hp.out.hb.tabs.t2 hp.out.atts ?_
  intro w2 h2
  replace hp := bxstep h2 hp
  clear h2
  refine hK.out _ _ (bx7 hp) (fun hHeld => ?_)
  clear hK K
  try simp only [Act.put, List.setIfInBounds_toArray, List.set_cons_zero, List.set_cons_succ]
  refine RegW.take (i := 2) (v := ?_) rfl (by kernel_rfl) (by kernel_rfl) (by kernel_rfl) (by kernel_rfl) (fun _ _ _ h => h) (Or.inl ⟨by kernel_rfl, ?_⟩) (by assumption) ?_
  rotate_left
  · intro w hSw
    go_split_ands
    go_simp
    try with_reducible rfl
  try simp only [Act.put, List.setIfInBounds_toArray]
  refine RegW.take (i := 3) (v := ?_) rfl (by kernel_rfl) (by kernel_rfl) (by kernel_rfl) (by kernel_rfl) (fun _ _ _ h => h) (Or.inl ⟨by kernel_rfl, ?_⟩) (by assumption) ?_
  rotate_left
  · intro w hSw
    go_split_ands
    go_simp
    try with_reducible rfl
  try simp only [Act.put]
  refine RegW.take (i := 4) (v := ?_) rfl (by kernel_rfl) (by kernel_rfl) (by kernel_rfl) (by kernel_rfl) (fun _ _ _ h => h) (Or.inl ⟨by kernel_rfl, ?_⟩) (by assumption) ?_
  rotate_left
  · intro w hSw
    go_split_ands
    go_simp
    try with_reducible rfl
  try simp only [Act.put]
  refine RegW.take (i := 5) (v := ?_) rfl (by kernel_rfl) (by kernel_rfl) (by kernel_rfl) (by kernel_rfl) (fun _ _ _ h => h) (Or.inl ⟨by kernel_rfl, ?_⟩) (by assumption) ?_
  rotate_left
  · intro w hSw
    go_split_ands
    go_simp
    try with_reducible rfl
  try simp only [Act.put]
  refine RegW.take (i := 6) (v := ?_) rfl (by kernel_rfl) (by kernel_rfl) (by kernel_rfl) (by kernel_rfl) (fun _ _ _ h => h) (Or.inl ⟨by kernel_rfl, ?_⟩) (by assumption) ?_
  rotate_left
  · intro w hSw
    go_split_ands
    go_simp
    try with_reducible rfl
  try simp only [Act.put]
  refine RegW.take (i := 7) (v := ?_) rfl (by kernel_rfl) (by kernel_rfl) (by kernel_rfl) (by kernel_rfl) (fun _ _ _ h => h) (Or.inl ⟨by kernel_rfl, ?_⟩) (by assumption) ?_
  rotate_left
  · intro w hSw
    go_split_ands
    go_simp
    try with_reducible rfl
  try simp only [Act.put]
  refine RegW.only (i := 8) rfl (by kernel_rfl) (fun K hK => ?_)
  go_simp
  go_at_call 17
  refine c3.calls ?_
  refine hK.out _ _ (bx7 hp) (fun hHeld => ?_)
  clear hK K
  try simp only [Act.put, List.setIfInBounds_toArray, List.set_cons_zero, List.set_cons_succ]
  refine RegW.only (i := 9) rfl (by kernel_rfl) (fun K hK => ?_)
  go_simp
  go_at_call 16
  refine c4.calls0  ?_
  intro w4 h4
  replace hp := bxstep h4 hp
  clear h4
  refine hK.out _ _ (bx7 hp) (fun hHeld => ?_)
  clear hK K
  try simp only [Act.put, List.setIfInBounds_toArray, List.set_cons_zero, List.set_cons_succ]
  refine RegW.take (i := 10) (v := ?_) rfl (by kernel_rfl) (by kernel_rfl) (by kernel_rfl) (by kernel_rfl) (fun _ _ _ h => h) (Or.inl ⟨by kernel_rfl, ?_⟩) (by assumption) ?_
  rotate_left
  · intro w hSw
    go_split_ands
    go_simp
    try with_reducible rfl
  try simp only [Act.put, List.setIfInBounds_toArray]
  refine RegW.take (i := 11) (v := ?_) rfl (by kernel_rfl) (by kernel_rfl) (by kernel_rfl) (by kernel_rfl) (fun _ _ _ h => h) (Or.inl ⟨by kernel_rfl, ?_⟩) (by assumption) ?_
  rotate_left
  · intro w hSw
    go_split_ands
    go_simp
    try with_reducible rfl
  try simp only [Act.put]
  refine RegW.take (i := 12) (v := ?_) rfl (by kernel_rfl) (by kernel_rfl) (by kernel_rfl) (by kernel_rfl) (fun _ _ _ h => h) (Or.inl ⟨by kernel_rfl, ?_⟩) (by assumption) ?_
  rotate_left
  · intro w hSw
    go_split_ands
    go_simp
    try with_reducible rfl
  try simp only [Act.put]
  refine RegW.take (i := 13) (v := undef) rfl (by kernel_rfl) (by kernel_rfl) (by kernel_rfl) (by kernel_rfl) (fun _ _ _ h => h) (Or.inr ⟨by kernel_rfl, rfl⟩) (by assumption) ?_
  try simp only [Act.put]
  refine RegW.take (i := 14) (v := undef) rfl (by kernel_rfl) (by kernel_rfl) (by kernel_rfl) (by kernel_rfl) (fun _ _ _ h => h) (Or.inr ⟨by kernel_rfl, rfl⟩) (by assumption) ?_
  try simp only [Act.put]
  refine RegW.take (i := 15) (v := undef) rfl (by kernel_rfl) (by kernel_rfl) (by kernel_rfl) (by kernel_rfl) (fun _ _ _ h => h) (Or.inr ⟨by kernel_rfl, rfl⟩) (by assumption) ?_
  try simp only [Act.put]
  refine RegW.take (i := 16) (v := undef) rfl (by kernel_rfl) (by kernel_rfl) (by kernel_rfl) (by kernel_rfl) (fun _ _ _ h => h) (Or.inr ⟨by kernel_rfl, rfl⟩) (by assumption) ?_
  try simp only [Act.put]
  refine RegW.take (i := 17) (v := undef) rfl (by kernel_rfl) (by kernel_rfl) (by kernel_rfl) (by kernel_rfl) (fun _ _ _ h => h) (Or.inr ⟨by kernel_rfl, rfl⟩) (by assumption) ?_
  try simp only [Act.put]
  refine RegW.take (i := 18) (v := undef) rfl (by kernel_rfl) (by kernel_rfl) (by kernel_rfl) (by kernel_rfl) (fun _ _ _ h => h) (Or.inr ⟨by kernel_rfl, rfl⟩) (by assumption) ?_
  try simp only [Act.put]
  refine RegW.take (i := 19) (v := ?_) rfl (by kernel_rfl) (by kernel_rfl) (by kernel_rfl) (by kernel_rfl) (fun _ _ _ h => h) (Or.inl ⟨by kernel_rfl, ?_⟩) (by assumption) ?_
  rotate_left
  · intro w hSw
    go_split_ands
    go_simp
    try with_reducible rfl
  try simp only [Act.put]
  refine RegW.take (i := 20) (v := ?_) rfl (by kernel_rfl) (by kernel_rfl) (by kernel_rfl) (by kernel_rfl) (fun _ _ _ h => h) (Or.inl ⟨by kernel_rfl, ?_⟩) (by assumption) ?_
  rotate_left
  · intro w hSw
    go_split_ands
    go_simp
    try with_reducible rfl
  try simp only [Act.put]
  refine RegW.take (i := 21) (v := undef) rfl (by kernel_rfl) (by kernel_rfl) (by kernel_rfl) (by kernel_rfl) (fun _ _ _ h => h) (Or.inr ⟨by kernel_rfl, rfl⟩) (by assumption) ?_
  try simp only [Act.put]
  refine RegW.take (i := 22) (v := undef) rfl (by kernel_rfl) (by kernel_rfl) (by kernel_rfl) (by kernel_rfl) (fun _ _ _ h => h) (Or.inr ⟨by kernel_rfl, rfl⟩) (by assumption) ?_
  try simp only [Act.put]
  refine RegW.take (i := 23) (v := undef) rfl (by kernel_rfl) (by kernel_rfl) (by kernel_rfl) (by kernel_rfl) (fun _ _ _ h => h) (Or.inr ⟨by kernel_rfl, rfl⟩) (by assumption) ?_
  try simp only [Act.put]
  refine RegW.take (i := 24) (v := undef) rfl (by kernel_rfl) (by kernel_rfl) (by kernel_rfl) (by kernel_rfl) (fun _ _ _ h => h) (Or.inr ⟨by kernel_rfl, rfl⟩) (by assumption) ?_
  try simp only [Act.put]
  refine RegW.take (i := 25) (v := undef) rfl (by kernel_rfl) (by kernel_rfl) (by kernel_rfl) (by kernel_rfl) (fun _ _ _ h => h) (Or.inr ⟨by kernel_rfl, rfl⟩) (by assumption) ?_
  try simp only [Act.put]
  refine RegW.take (i := 26) (v := undef) rfl (by kernel_rfl) (by kernel_rfl) (by kernel_rfl) (by kernel_rfl) (fun _ _ _ h => h) (Or.inr ⟨by kernel_rfl, rfl⟩) (by assumption) ?_
  try simp only [Act.put]
  refine RegW.take (i := 27) (v := undef) rfl (by kernel_rfl) (by kernel_rfl) (by kernel_rfl) (by kernel_rfl) (fun _ _ _ h => h) (Or.inr ⟨by kernel_rfl, rfl⟩) (by assumption) ?_
  try simp only [Act.put]
  refine RegW.take (i := 28) (v := undef) rfl (by kernel_rfl) (by kernel_rfl) (by kernel_rfl) (by kernel_rfl) (fun _ _ _ h => h) (Or.inr ⟨by kernel_rfl, rfl⟩) (by assumption) ?_
  try simp only [Act.put]
  refine RegW.take (i := 29) (v := undef) rfl (by kernel_rfl) (by kernel_rfl) (by kernel_rfl) (by kernel_rfl) (fun _ _ _ h => h) (Or.inr ⟨by kernel_rfl, rfl⟩) (by assumption) ?_
  try simp only [Act.put]
  refine RegW.take (i := 30) (v := undef) rfl (by kernel_rfl) (by kernel_rfl) (by kernel_rfl) (by kernel_rfl) (fun _ _ _ h => h) (Or.inr ⟨by kernel_rfl, rfl⟩) (by assumption) ?_
  try simp only [Act.put]
  refine RegW.take (i := 31) (v := undef) rfl (by kernel_rfl) (by kernel_rfl) (by kernel_rfl) (by kernel_rfl) (fun _ _ _ h => h) (Or.inr ⟨by kernel_rfl, rfl⟩) (by assumption) ?_
  try simp only [Act.put]
  refine RegW.take (i := 32) (v := undef) rfl (by kernel_rfl) (by kernel_rfl) (by kernel_rfl) (by kernel_rfl) (fun _ _ _ h => h) (Or.inr ⟨by kernel_rfl, rfl⟩) (by assumption) ?_
  try simp only [Act.put]
  refine RegW.take (i := 33) (v := undef) rfl (by kernel_rfl) (by kernel_rfl) (by kernel_rfl) (by kernel_rfl) (fun _ _ _ h => h) (Or.inr ⟨by kernel_rfl, rfl⟩) (by assumption) ?_
  try simp only [Act.put]
  refine RegW.take (i := 34) (v := ?_) rfl (by kernel_rfl) (by kernel_rfl) (by kernel_rfl) (by kernel_rfl) (fun _ _ _ h => h) (Or.inl ⟨by kernel_rfl, ?_⟩) (by assumption) ?_
  rotate_left
  · intro w hSw
    go_split_ands
    go_simp
    try with_reducible rfl
  try simp only [Act.put]
  refine RegW.last rfl (by kernel_rfl) (by kernel_rfl) ?_
  clear hHeld
  go_wp2_with fail
  refine c9.calls0 hp.out.hb.tabs ?_
  intro w9 h9
  replace hp := bxstep h9 hp
  clear h9
  go_wp2_with fail
  go_ret
  exact ⟨rfl, hp.out.hb.since⟩

set_option maxRecDepth 100000 in
set_option maxHeartbeats 8000000 in
theorem err_pad (kek : ByteArray) (w : World) (K : Int) (k : ByteArray) (A : Option Addr) (n q : Nat) (L : List A2) (u m v e : ByteArray) (pads : ByteArray) (hx : AttsS w (.slice A n q) L) (l1 : kek.size ≤ 100) (l2 : pads.size ≤ 200) (c0 : Rec.RdR 6 L (fun x => #[rv K k u m v e x]) (.bool true)) (E : Int) (hE : (E != 0) = true) (c1 : RdE 8 kek pads K k u m v e L (.tuple #[.string ⟨#[]⟩, .int .i64 E])) (c2 : Rec.RdR 15 L (fun x => #[rv K k u m v e x]) (.int .i64 0)) (l : ByteArray) (c3 : Ret 17 #[.int .i64 K] (.string l)) (c4 : Mak 16 #[.agg #[.string u, .string m, .string v, .string e], .string l] (.int .i64 0)) (Z : Int) (c5 : Ret 18 #[.int .i64 K] (.int .i64 Z)) (hZ : ((pads.size : Int) == Z) = false) (hT : K3 w) :
    Calls Tryz.prog 4 #[.string kek, .agg #[.int .i64 K, .string k, .slice A n q, .string u, .string m, .string v, .string e], .string pads] w fun x w' => x = .returned (.bool true) ∧ Since w w' := by
  have t1 : decide ((100 : Int) < (kek.size : Int)) = false := decide_eq_false (by omega)
  have t2 : decide ((200 : Int) < (pads.size : Int)) = false := decide_eq_false (by omega)
  clear l1 l2
  have hp := Lib.hid (bx_new (K := K) (k := k) (u := u) (m := m) (v := v) (e := e) hT hx)
  have c9 := awake_k
  obtain ⟨_, m0, m1, m2, m3, m4, m5, m6⟩ := bx7 hp
  clear hx hT
  go_enter Tryz.func4, Tryz.ntmps4
  go_wp2_with fail
  clear m0 m1 m2 m3 m4 m5 m6
  refine (c0.calls0 hp.out.hb.tabs.t2 hp.out.atts) ?_
  intro w1 h1
  replace hp := bxstep (by first | exact h1 | exact (Since.alloc (Since.refl _) _).step h1) hp
  clear h1
  obtain ⟨_, m0, m1, m2, m3, m4, m5, m6⟩ := bx7 hp
  go_wp2_with fail
  clear m0 m1 m2 m3 m4 m5 m6
  refine (c1.calls0 hp.out.hb.tabs hp.out.atts) ?_
  intro w2 h2
  replace hp := bxstep (by first | exact h2 | exact (Since.alloc (Since.refl _) _).step h2) hp
  clear h2
  go_wp2_with fail
  refine RegW.start (fun W' => Hid (BX w w.heap.size K k u m v e (.slice A n q) L W') ∧ W'.cell? ⟨w.heap.size, 0, none⟩ = some (.int .i64 K) ∧ W'.cell? ⟨w.heap.size, 1, none⟩ = some (.string k) ∧ W'.cell? ⟨w.heap.size, 2, none⟩ = some (.slice A n q) ∧ W'.cell? ⟨w.heap.size, 3, none⟩ = some (.string u) ∧ W'.cell? ⟨w.heap.size, 4, none⟩ = some (.string m) ∧ W'.cell? ⟨w.heap.size, 5, none⟩ = some (.string v) ∧ W'.cell? ⟨w.heap.size, 6, none⟩ = some (.string e)) 35 (by kernel_rfl) (bx7 (bxdrew hp)) (fun hHeld => ?_)
  replace hp := bxdrew hp
  refine RegW.take (i := 0) (v := ?_) rfl (by kernel_rfl) (by kernel_rfl) (by kernel_rfl) (by kernel_rfl) (fun _ _ _ h => h) (Or.inl ⟨by kernel_rfl, ?_⟩) (by assumption) ?_
  rotate_left
  · intro w hSw
    go_split_ands
    go_simp
    try with_reducible rfl
  try simp only [Act.put, List.setIfInBounds_toArray]
  refine RegW.only (i := 1) rfl (by kernel_rfl) (fun K hK => ?_)
  go_simp
  go_at_call 15
  refine c2.calls0 hp.out.hb.tabs.t2 hp.out.atts ?_
  intro w2 h2
  replace hp := bxstep h2 hp
  clear h2
  refine hK.out _ _ (bx7 hp) (fun hHeld => ?_)
  clear hK K
  try simp only [Act.put, List.setIfInBounds_toArray, List.set_cons_zero, List.set_cons_succ]
  refine RegW.take (i := 2) (v := ?_) rfl (by kernel_rfl) (by kernel_rfl) (by kernel_rfl) (by kernel_rfl) (fun _ _ _ h => h) (Or.inl ⟨by kernel_rfl, ?_⟩) (by assumption) ?_
  rotate_left
  · intro w hSw
    go_split_ands
    go_simp
    try with_reducible rfl
  try simp only [Act.put, List.setIfInBounds_toArray]
  refine RegW.take (i := 3) (v := ?_) rfl (by kernel_rfl) (by kernel_rfl) (by kernel_rfl) (by kernel_rfl) (fun _ _ _ h => h) (Or.inl ⟨by kernel_rfl, ?_⟩) (by assumption) ?_
  rotate_left
  · intro w hSw
    go_split_ands
    go_simp
    try with_reducible rfl
  try simp only [Act.put]
  refine RegW.take (i := 4) (v := ?_) rfl (by kernel_rfl) (by kernel_rfl) (by kernel_rfl) (by kernel_rfl) (fun _ _ _ h => h) (Or.inl ⟨by kernel_rfl, ?_⟩) (by assumption) ?_
  rotate_left
  · intro w hSw
    go_split_ands
    go_simp
    try with_reducible rfl
  try simp only [Act.put]
  refine RegW.take (i := 5) (v := ?_) rfl (by kernel_rfl) (by kernel_rfl) (by kernel_rfl) (by kernel_rfl) (fun _ _ _ h => h) (Or.inl ⟨by kernel_rfl, ?_⟩) (by assumption) ?_
  rotate_left
  · intro w hSw
    go_split_ands
    go_simp
    try with_reducible rfl
  try simp only [Act.put]
  refine RegW.take (i := 6) (v := ?_) rfl (by kernel_rfl) (by kernel_rfl) (by kernel_rfl) (by kernel_rfl) (fun _ _ _ h => h) (Or.inl ⟨by kernel_rfl, ?_⟩) (by assumption) ?_
  rotate_left
  · intro w hSw
    go_split_ands
    go_simp
    try with_reducible rfl
  try simp only [Act.put]
  refine RegW.take (i := 7) (v := ?_) rfl (by kernel_rfl) (by kernel_rfl) (by kernel_rfl) (by kernel_rfl) (fun _ _ _ h => h) (Or.inl ⟨by kernel_rfl, ?_⟩) (by assumption) ?_
  rotate_left
  · intro w hSw
    go_split_ands
    go_simp
    try with_reducible rfl
  try simp only [Act.put]
  refine RegW.only (i := 8) rfl (by kernel_rfl) (fun K hK => ?_)
  go_simp
  go_at_call 17
  refine c3.calls ?_
  refine hK.out _ _ (bx7 hp) (fun hHeld => ?_)
  clear hK K
  try simp only [Act.put, List.setIfInBounds_toArray, List.set_cons_zero, List.set_cons_succ]
  refine RegW.only (i := 9) rfl (by kernel_rfl) (fun K hK => ?_)
  go_simp
  go_at_call 16
  refine c4.calls0  ?_
  intro w4 h4
  replace hp := bxstep h4 hp
  clear h4
  refine hK.out _ _ (bx7 hp) (fun hHeld => ?_)
  clear hK K
  try simp only [Act.put, List.setIfInBounds_toArray, List.set_cons_zero, List.set_cons_succ]
  refine RegW.take (i := 10) (v := ?_) rfl (by kernel_rfl) (by kernel_rfl) (by kernel_rfl) (by kernel_rfl) (fun _ _ _ h => h) (Or.inl ⟨by kernel_rfl, ?_⟩) (by assumption) ?_
  rotate_left
  · intro w hSw
    go_split_ands
    go_simp
    try with_reducible rfl
  try simp only [Act.put, List.setIfInBounds_toArray]
  refine RegW.take (i := 11) (v := ?_) rfl (by kernel_rfl) (by kernel_rfl) (by kernel_rfl) (by kernel_rfl) (fun _ _ _ h => h) (Or.inl ⟨by kernel_rfl, ?_⟩) (by assumption) ?_
  rotate_left
  · intro w hSw
    go_split_ands
    go_simp
    try with_reducible rfl
  try simp only [Act.put]
  refine RegW.take (i := 12) (v := ?_) rfl (by kernel_rfl) (by kernel_rfl) (by kernel_rfl) (by kernel_rfl) (fun _ _ _ h => h) (Or.inl ⟨by kernel_rfl, ?_⟩) (by assumption) ?_
  rotate_left
  · intro w hSw
    go_split_ands
    go_simp
    try with_reducible rfl
  try simp only [Act.put]
  refine RegW.take (i := 13) (v := ?_) rfl (by kernel_rfl) (by kernel_rfl) (by kernel_rfl) (by kernel_rfl) (fun _ _ _ h => h) (Or.inl ⟨by kernel_rfl, ?_⟩) (by assumption) ?_
  rotate_left
  · intro w hSw
    go_split_ands
    go_simp
    try with_reducible rfl
  try simp only [Act.put]
  refine RegW.take (i := 14) (v := ?_) rfl (by kernel_rfl) (by kernel_rfl) (by kernel_rfl) (by kernel_rfl) (fun _ _ _ h => h) (Or.inl ⟨by kernel_rfl, ?_⟩) (by assumption) ?_
  rotate_left
  · intro w hSw
    go_split_ands
    go_simp
    try with_reducible rfl
  try simp only [Act.put]
  refine RegW.take (i := 15) (v := ?_) rfl (by kernel_rfl) (by kernel_rfl) (by kernel_rfl) (by kernel_rfl) (fun _ _ _ h => h) (Or.inl ⟨by kernel_rfl, ?_⟩) (by assumption) ?_
  rotate_left
  · intro w hSw
    go_split_ands
    go_simp
    try with_reducible rfl
  try simp only [Act.put]
  refine RegW.take (i := 16) (v := ?_) rfl (by kernel_rfl) (by kernel_rfl) (by kernel_rfl) (by kernel_rfl) (fun _ _ _ h => h) (Or.inl ⟨by kernel_rfl, ?_⟩) (by assumption) ?_
  rotate_left
  · intro w hSw
    go_split_ands
    go_simp
    try with_reducible rfl
  try simp only [Act.put]
  refine RegW.only (i := 17) rfl (by kernel_rfl) (fun K hK => ?_)
  go_simp
  go_at_call 18
  refine c5.calls ?_
  refine hK.out _ _ (bx7 hp) (fun hHeld => ?_)
  clear hK K
  try simp only [Act.put, List.setIfInBounds_toArray, List.set_cons_zero, List.set_cons_succ]
  refine RegW.take (i := 18) (v := ?_) rfl (by kernel_rfl) (by kernel_rfl) (by kernel_rfl) (by kernel_rfl) (fun _ _ _ h => h) (Or.inl ⟨by kernel_rfl, ?_⟩) (by assumption) ?_
  rotate_left
  · intro w hSw
    go_split_ands
    go_simp
    try with_reducible rfl
  try simp only [Act.put, List.setIfInBounds_toArray]
  refine RegW.take (i := 19) (v := ?_) rfl (by kernel_rfl) (by kernel_rfl) (by kernel_rfl) (by kernel_rfl) (fun _ _ _ h => h) (Or.inl ⟨by kernel_rfl, ?_⟩) (by assumption) ?_
  rotate_left
  · intro w hSw
    go_split_ands
    go_simp
    try with_reducible rfl
  try simp only [Act.put]
  refine RegW.take (i := 20) (v := ?_) rfl (by kernel_rfl) (by kernel_rfl) (by kernel_rfl) (by kernel_rfl) (fun _ _ _ h => h) (Or.inl ⟨by kernel_rfl, ?_⟩) (by assumption) ?_
  rotate_left
  · intro w hSw
    go_split_ands
    go_simp
    try with_reducible rfl
  try simp only [Act.put]
  refine RegW.take (i := 21) (v := undef) rfl (by kernel_rfl) (by kernel_rfl) (by kernel_rfl) (by kernel_rfl) (fun _ _ _ h => h) (Or.inr ⟨by kernel_rfl, rfl⟩) (by assumption) ?_
  try simp only [Act.put]
  refine RegW.take (i := 22) (v := undef) rfl (by kernel_rfl) (by kernel_rfl) (by kernel_rfl) (by kernel_rfl) (fun _ _ _ h => h) (Or.inr ⟨by kernel_rfl, rfl⟩) (by assumption) ?_
  try simp only [Act.put]
  refine RegW.take (i := 23) (v := undef) rfl (by kernel_rfl) (by kernel_rfl) (by kernel_rfl) (by kernel_rfl) (fun _ _ _ h => h) (Or.inr ⟨by kernel_rfl, rfl⟩) (by assumption) ?_
  try simp only [Act.put]
  refine RegW.take (i := 24) (v := undef) rfl (by kernel_rfl) (by kernel_rfl) (by kernel_rfl) (by kernel_rfl) (fun _ _ _ h => h) (Or.inr ⟨by kernel_rfl, rfl⟩) (by assumption) ?_
  try simp only [Act.put]
  refine RegW.take (i := 25) (v := undef) rfl (by kernel_rfl) (by kernel_rfl) (by kernel_rfl) (by kernel_rfl) (fun _ _ _ h => h) (Or.inr ⟨by kernel_rfl, rfl⟩) (by assumption) ?_
  try simp only [Act.put]
  refine RegW.take (i := 26) (v := undef) rfl (by kernel_rfl) (by kernel_rfl) (by kernel_rfl) (by kernel_rfl) (fun _ _ _ h => h) (Or.inr ⟨by kernel_rfl, rfl⟩) (by assumption) ?_
  try simp only [Act.put]
  refine RegW.take (i := 27) (v := undef) rfl (by kernel_rfl) (by kernel_rfl) (by kernel_rfl) (by kernel_rfl) (fun _ _ _ h => h) (Or.inr ⟨by kernel_rfl, rfl⟩) (by assumption) ?_
  try simp only [Act.put]
  refine RegW.take (i := 28) (v := undef) rfl (by kernel_rfl) (by kernel_rfl) (by kernel_rfl) (by kernel_rfl) (fun _ _ _ h => h) (Or.inr ⟨by kernel_rfl, rfl⟩) (by assumption) ?_
  try simp only [Act.put]
  refine RegW.take (i := 29) (v := undef) rfl (by kernel_rfl) (by kernel_rfl) (by kernel_rfl) (by kernel_rfl) (fun _ _ _ h => h) (Or.inr ⟨by kernel_rfl, rfl⟩) (by assumption) ?_
  try simp only [Act.put]
  refine RegW.take (i := 30) (v := undef) rfl (by kernel_rfl) (by kernel_rfl) (by kernel_rfl) (by kernel_rfl) (fun _ _ _ h => h) (Or.inr ⟨by kernel_rfl, rfl⟩) (by assumption) ?_
  try simp only [Act.put]
  refine RegW.take (i := 31) (v := undef) rfl (by kernel_rfl) (by kernel_rfl) (by kernel_rfl) (by kernel_rfl) (fun _ _ _ h => h) (Or.inr ⟨by kernel_rfl, rfl⟩) (by assumption) ?_
  try simp only [Act.put]
  refine RegW.take (i := 32) (v := undef) rfl (by kernel_rfl) (by kernel_rfl) (by kernel_rfl) (by kernel_rfl) (fun _ _ _ h => h) (Or.inr ⟨by kernel_rfl, rfl⟩) (by assumption) ?_
  try simp only [Act.put]
  refine RegW.take (i := 33) (v := undef) rfl (by kernel_rfl) (by kernel_rfl) (by kernel_rfl) (by kernel_rfl) (fun _ _ _ h => h) (Or.inr ⟨by kernel_rfl, rfl⟩) (by assumption) ?_
  try simp only [Act.put]
  refine RegW.take (i := 34) (v := ?_) rfl (by kernel_rfl) (by kernel_rfl) (by kernel_rfl) (by kernel_rfl) (fun _ _ _ h => h) (Or.inl ⟨by kernel_rfl, ?_⟩) (by assumption) ?_
  rotate_left
  · intro w hSw
    go_split_ands
    go_simp
    try with_reducible rfl
  try simp only [Act.put]
  refine RegW.last rfl (by kernel_rfl) (by kernel_rfl) ?_
  clear hHeld
  go_wp2_with fail
  refine c9.calls0 hp.out.hb.tabs ?_
  intro w9 h9
  replace hp := bxstep h9 hp
  clear h9
  go_wp2_with fail
  go_ret
  exact ⟨rfl, hp.out.hb.since⟩

set_option maxRecDepth 100000 in
set_option maxHeartbeats 8000000 in
theorem err_key (kek : ByteArray) (w : World) (K : Int) (k : ByteArray) (A : Option Addr) (n q : Nat) (L : List A2) (u m v e : ByteArray) (pads : ByteArray) (hx : AttsS w (.slice A n q) L) (l1 : kek.size ≤ 100) (l2 : pads.size ≤ 200) (c0 : Rec.RdR 6 L (fun x => #[rv K k u m v e x]) (.bool true)) (E : Int) (hE : (E != 0) = true) (c1 : RdE 8 kek pads K k u m v e L (.tuple #[.string ⟨#[]⟩, .int .i64 E])) (c2 : Rec.RdR 15 L (fun x => #[rv K k u m v e x]) (.int .i64 0)) (l : ByteArray) (c3 : Ret 17 #[.int .i64 K] (.string l)) (c4 : Mak 16 #[.agg #[.string u, .string m, .string v, .string e], .string l] (.int .i64 0)) (Z : Int) (c5 : Ret 18 #[.int .i64 K] (.int .i64 Z)) (hZ : ((pads.size : Int) == Z) = true) (q0 : ((kek.size : Int) == 16) = false) (q1 : ((kek.size : Int) == 24) = false) (q2 : ((kek.size : Int) == 32) = false) (hT : K3 w) :
    Calls Tryz.prog 4 #[.string kek, .agg #[.int .i64 K, .string k, .slice A n q, .string u, .string m, .string v, .string e], .string pads] w fun x w' => x = .returned (.bool true) ∧ Since w w' := by
  have t1 : decide ((100 : Int) < (kek.size : Int)) = false := decide_eq_false (by omega)
  have t2 : decide ((200 : Int) < (pads.size : Int)) = false := decide_eq_false (by omega)
  clear l1 l2
  have hp := Lib.hid (bx_new (K := K) (k := k) (u := u) (m := m) (v := v) (e := e) hT hx)
  have c9 := awake_k
  obtain ⟨_, m0, m1, m2, m3, m4, m5, m6⟩ := bx7 hp
  clear hx hT
  go_enter Tryz.func4, Tryz.ntmps4
  go_wp2_with fail
  clear m0 m1 m2 m3 m4 m5 m6
  refine (c0.calls0 hp.out.hb.tabs.t2 hp.out.atts) ?_
  intro w1 h1
  replace hp := bxstep (by first | exact h1 | exact (Since.alloc (Since.refl _) _).step h1) hp
  clear h1
  obtain ⟨_, m0, m1, m2, m3, m4, m5, m6⟩ := bx7 hp
  go_wp2_with fail
  clear m0 m1 m2 m3 m4 m5 m6
  refine (c1.calls0 hp.out.hb.tabs hp.out.atts) ?_
  intro w2 h2
  replace hp := bxstep (by first | exact h2 | exact (Since.alloc (Since.refl _) _).step h2) hp
  clear h2
  go_wp2_with fail
  refine RegW.start (fun W' => Hid (BX w w.heap.size K k u m v e (.slice A n q) L W') ∧ W'.cell? ⟨w.heap.size, 0, none⟩ = some (.int .i64 K) ∧ W'.cell? ⟨w.heap.size, 1, none⟩ = some (.string k) ∧ W'.cell? ⟨w.heap.size, 2, none⟩ = some (.slice A n q) ∧ W'.cell? ⟨w.heap.size, 3, none⟩ = some (.string u) ∧ W'.cell? ⟨w.heap.size, 4, none⟩ = some (.string m) ∧ W'.cell? ⟨w.heap.size, 5, none⟩ = some (.string v) ∧ W'.cell? ⟨w.heap.size, 6, none⟩ = some (.string e)) 35 (by kernel_rfl) (bx7 (bxdrew hp)) (fun hHeld => ?_)
  replace hp := bxdrew hp
  refine RegW.take (i := 0) (v := ?_) rfl (by kernel_rfl) (by kernel_rfl) (by kernel_rfl) (by kernel_rfl) (fun _ _ _ h => h) (Or.inl ⟨by kernel_rfl, ?_⟩) (by assumption) ?_
  rotate_left
  · intro w hSw
    go_split_ands
    go_simp
    try with_reducible rfl
  try simp only [Act.put, List.setIfInBounds_toArray]
  refine RegW.only (i := 1) rfl (by kernel_rfl) (fun K hK => ?_)
  go_simp
  go_at_call 15
  refine c2.calls0 hp.out.hb.tabs.t2 hp.out.atts ?_
  intro w2 h2
  replace hp := bxstep h2 hp
  clear h2
  refine hK.out _ _ (bx7 hp) (fun hHeld => ?_)
  clear hK K
  try simp only [Act.put, List.setIfInBounds_toArray, List.set_cons_zero, List.set_cons_succ]
  refine RegW.take (i := 2) (v := ?_) rfl (by kernel_rfl) (by kernel_rfl) (by kernel_rfl) (by kernel_rfl) (fun _ _ _ h => h) (Or.inl ⟨by kernel_rfl, ?_⟩) (by assumption) ?_
  rotate_left
  · intro w hSw
    go_split_ands
    go_simp
    try with_reducible rfl
  try simp only [Act.put, List.setIfInBounds_toArray]
  refine RegW.take (i := 3) (v := ?_) rfl (by kernel_rfl) (by kernel_rfl) (by kernel_rfl) (by kernel_rfl) (fun _ _ _ h => h) (Or.inl ⟨by kernel_rfl, ?_⟩) (by assumption) ?_
  rotate_left
  · intro w hSw
    go_split_ands
    go_simp
    try with_reducible rfl
  try simp only [Act.put]
  refine RegW.take (i := 4) (v := ?_) rfl (by kernel_rfl) (by kernel_rfl) (by kernel_rfl) (by kernel_rfl) (fun _ _ _ h => h) (Or.inl ⟨by kernel_rfl, ?_⟩) (by assumption) ?_
  rotate_left
  · intro w hSw
    go_split_ands
    go_simp
    try with_reducible rfl
  try simp only [Act.put]
  refine RegW.take (i := 5) (v := ?_) rfl (by kernel_rfl) (by kernel_rfl) (by kernel_rfl) (by kernel_rfl) (fun _ _ _ h => h) (Or.inl ⟨by kernel_rfl, ?_⟩) (by assumption) ?_
  rotate_left
  · intro w hSw
    go_split_ands
    go_simp
    try with_reducible rfl
  try simp only [Act.put]
  refine RegW.take (i := 6) (v := ?_) rfl (by kernel_rfl) (by kernel_rfl) (by kernel_rfl) (by kernel_rfl) (fun _ _ _ h => h) (Or.inl ⟨by kernel_rfl, ?_⟩) (by assumption) ?_
  rotate_left
  · intro w hSw
    go_split_ands
    go_simp
    try with_reducible rfl
  try simp only [Act.put]
  refine RegW.take (i := 7) (v := ?_) rfl (by kernel_rfl) (by kernel_rfl) (by kernel_rfl) (by kernel_rfl) (fun _ _ _ h => h) (Or.inl ⟨by kernel_rfl, ?_⟩) (by assumption) ?_
  rotate_left
  · intro w hSw
    go_split_ands
    go_simp
    try with_reducible rfl
  try simp only [Act.put]
  refine RegW.only (i := 8) rfl (by kernel_rfl) (fun K hK => ?_)
  go_simp
  go_at_call 17
  refine c3.calls ?_
  refine hK.out _ _ (bx7 hp) (fun hHeld => ?_)
  clear hK K
  try simp only [Act.put, List.setIfInBounds_toArray, List.set_cons_zero, List.set_cons_succ]
  refine RegW.only (i := 9) rfl (by kernel_rfl) (fun K hK => ?_)
  go_simp
  go_at_call 16
  refine c4.calls0  ?_
  intro w4 h4
  replace hp := bxstep h4 hp
  clear h4
  refine hK.out _ _ (bx7 hp) (fun hHeld => ?_)
  clear hK K
  try simp only [Act.put, List.setIfInBounds_toArray, List.set_cons_zero, List.set_cons_succ]
  refine RegW.take (i := 10) (v := ?_) rfl (by kernel_rfl) (by kernel_rfl) (by kernel_rfl) (by kernel_rfl) (fun _ _ _ h => h) (Or.inl ⟨by kernel_rfl, ?_⟩) (by assumption) ?_
  rotate_left
  · intro w hSw
    go_split_ands
    go_simp
    try with_reducible rfl
  try simp only [Act.put, List.setIfInBounds_toArray]
  refine RegW.take (i := 11) (v := ?_) rfl (by kernel_rfl) (by kernel_rfl) (by kernel_rfl) (by kernel_rfl) (fun _ _ _ h => h) (Or.inl ⟨by kernel_rfl, ?_⟩) (by assumption) ?_
  rotate_left
  · intro w hSw
    go_split_ands
    go_simp
    try with_reducible rfl
  try simp only [Act.put]
  refine RegW.take (i := 12) (v := ?_) rfl (by kernel_rfl) (by kernel_rfl) (by kernel_rfl) (by kernel_rfl) (fun _ _ _ h => h) (Or.inl ⟨by kernel_rfl, ?_⟩) (by assumption) ?_
  rotate_left
  · intro w hSw
    go_split_ands
    go_simp
    try with_reducible rfl
  try simp only [Act.put]
  refine RegW.take (i := 13) (v := ?_) rfl (by kernel_rfl) (by kernel_rfl) (by kernel_rfl) (by kernel_rfl) (fun _ _ _ h => h) (Or.inl ⟨by kernel_rfl, ?_⟩) (by assumption) ?_
  rotate_left
  · intro w hSw
    go_split_ands
    go_simp
    try with_reducible rfl
  try simp only [Act.put]
  refine RegW.take (i := 14) (v := ?_) rfl (by kernel_rfl) (by kernel_rfl) (by kernel_rfl) (by kernel_rfl) (fun _ _ _ h => h) (Or.inl ⟨by kernel_rfl, ?_⟩) (by assumption) ?_
  rotate_left
  · intro w hSw
    go_split_ands
    go_simp
    try with_reducible rfl
  try simp only [Act.put]
  refine RegW.take (i := 15) (v := ?_) rfl (by kernel_rfl) (by kernel_rfl) (by kernel_rfl) (by kernel_rfl) (fun _ _ _ h => h) (Or.inl ⟨by kernel_rfl, ?_⟩) (by assumption) ?_
  rotate_left
  · intro w hSw
    go_split_ands
    go_simp
    try with_reducible rfl
  try simp only [Act.put]
  refine RegW.take (i := 16) (v := ?_) rfl (by kernel_rfl) (by kernel_rfl) (by kernel_rfl) (by kernel_rfl) (fun _ _ _ h => h) (Or.inl ⟨by kernel_rfl, ?_⟩) (by assumption) ?_
  rotate_left
  · intro w hSw
    go_split_ands
    go_simp
    try with_reducible rfl
  try simp only [Act.put]
  refine RegW.only (i := 17) rfl (by kernel_rfl) (fun K hK => ?_)
  go_simp
  go_at_call 18
  refine c5.calls ?_
  refine hK.out _ _ (bx7 hp) (fun hHeld => ?_)
  clear hK K
  try simp only [Act.put, List.setIfInBounds_toArray, List.set_cons_zero, List.set_cons_succ]
  refine RegW.take (i := 18) (v := ?_) rfl (by kernel_rfl) (by kernel_rfl) (by kernel_rfl) (by kernel_rfl) (fun _ _ _ h => h) (Or.inl ⟨by kernel_rfl, ?_⟩) (by assumption) ?_
  rotate_left
  · intro w hSw
    go_split_ands
    go_simp
    try with_reducible rfl
  try simp only [Act.put, List.setIfInBounds_toArray]
  refine RegW.take (i := 19) (v := ?_) rfl (by kernel_rfl) (by kernel_rfl) (by kernel_rfl) (by kernel_rfl) (fun _ _ _ h => h) (Or.inl ⟨by kernel_rfl, ?_⟩) (by assumption) ?_
  rotate_left
  · intro w hSw
    go_split_ands
    go_simp
    try with_reducible rfl
  try simp only [Act.put]
  refine RegW.take (i := 20) (v := ?_) rfl (by kernel_rfl) (by kernel_rfl) (by kernel_rfl) (by kernel_rfl) (fun _ _ _ h => h) (Or.inl ⟨by kernel_rfl, ?_⟩) (by assumption) ?_
  rotate_left
  · intro w hSw
    go_split_ands
    go_simp
    try with_reducible rfl
  try simp only [Act.put]
  refine RegW.take (i := 21) (v := ?_) rfl (by kernel_rfl) (by kernel_rfl) (by kernel_rfl) (by kernel_rfl) (fun _ _ _ h => h) (Or.inl ⟨by kernel_rfl, ?_⟩) (by assumption) ?_
  rotate_left
  · intro w hSw
    go_split_ands
    go_simp
    try with_reducible rfl
  try simp only [Act.put]
  refine RegW.take (i := 22) (v := ?_) rfl (by kernel_rfl) (by kernel_rfl) (by kernel_rfl) (by kernel_rfl) (fun _ _ _ h => h) (Or.inl ⟨by kernel_rfl, ?_⟩) (by assumption) ?_
  rotate_left
  · intro w hSw
    go_split_ands
    go_simp
    try with_reducible rfl
  try simp only [Act.put]
  refine RegW.take (i := 23) (v := ?_) rfl (by kernel_rfl) (by kernel_rfl) (by kernel_rfl) (by kernel_rfl) (fun _ _ _ h => h) (Or.inl ⟨by kernel_rfl, ?_⟩) (by assumption) ?_
  rotate_left
  · intro w hSw
    go_split_ands
    go_simp
    try with_reducible rfl
  try simp only [Act.put]
  refine RegW.take (i := 24) (v := ?_) rfl (by kernel_rfl) (by kernel_rfl) (by kernel_rfl) (by kernel_rfl) (fun _ _ _ h => h) (Or.inl ⟨by kernel_rfl, ?_⟩) (by assumption) ?_
  rotate_left
  · intro w hSw
    go_split_ands
    go_simp
    try with_reducible rfl
  try simp only [Act.put]
  refine RegW.take (i := 25) (v := ?_) rfl (by kernel_rfl) (by kernel_rfl) (by kernel_rfl) (by kernel_rfl) (fun _ _ _ h => h) (Or.inl ⟨by kernel_rfl, ?_⟩) (by assumption) ?_
  rotate_left
  · intro w hSw
    go_split_ands
    go_simp
    try with_reducible rfl
  try simp only [Act.put]
  refine RegW.take (i := 26) (v := ?_) rfl (by kernel_rfl) (by kernel_rfl) (by kernel_rfl) (by kernel_rfl) (fun _ _ _ h => h) (Or.inl ⟨by kernel_rfl, ?_⟩) (by assumption) ?_
  rotate_left
  · intro w hSw
    go_split_ands
    go_simp
    try with_reducible rfl
  try simp only [Act.put]
  refine RegW.take (i := 27) (v := ?_) rfl (by kernel_rfl) (by kernel_rfl) (by kernel_rfl) (by kernel_rfl) (fun _ _ _ h => h) (Or.inl ⟨by kernel_rfl, ?_⟩) (by assumption) ?_
  rotate_left
  · intro w hSw
    go_split_ands
    go_simp
    try with_reducible rfl
  try simp only [Act.put]
  refine RegW.take (i := 28) (v := ?_) rfl (by kernel_rfl) (by kernel_rfl) (by kernel_rfl) (by kernel_rfl) (fun _ _ _ h => h) (Or.inl ⟨by kernel_rfl, ?_⟩) (by assumption) ?_
  rotate_left
  · intro w hSw
    go_split_ands
    go_simp
    try with_reducible rfl
  try simp only [Act.put]
  refine RegW.take (i := 29) (v := ?_) rfl (by kernel_rfl) (by kernel_rfl) (by kernel_rfl) (by kernel_rfl) (fun _ _ _ h => h) (Or.inl ⟨by kernel_rfl, ?_⟩) (by assumption) ?_
  rotate_left
  · intro w hSw
    go_split_ands
    go_simp
    try with_reducible rfl
  try simp only [Act.put]
  refine RegW.take (i := 30) (v := ?_) rfl (by kernel_rfl) (by kernel_rfl) (by kernel_rfl) (by kernel_rfl) (fun _ _ _ h => h) (Or.inl ⟨by kernel_rfl, ?_⟩) (by assumption) ?_
  rotate_left
  · intro w hSw
    go_split_ands
    go_simp
    try with_reducible rfl
  try simp only [Act.put]
  refine RegW.take (i := 31) (v := ?_) rfl (by kernel_rfl) (by kernel_rfl) (by kernel_rfl) (by kernel_rfl) (fun _ _ _ h => h) (Or.inl ⟨by kernel_rfl, ?_⟩) (by assumption) ?_
  rotate_left
  · intro w hSw
    go_split_ands
    go_simp
    try with_reducible rfl
  try simp only [Act.put]
  refine RegW.take (i := 32) (v := ?_) rfl (by kernel_rfl) (by kernel_rfl) (by kernel_rfl) (by kernel_rfl) (fun _ _ _ h => h) (Or.inl ⟨by kernel_rfl, ?_⟩) (by assumption) ?_
  rotate_left
  · intro w hSw
    go_split_ands
    go_simp
    try with_reducible rfl
  try simp only [Act.put]
  refine RegW.take (i := 33) (v := ?_) rfl (by kernel_rfl) (by kernel_rfl) (by kernel_rfl) (by kernel_rfl) (fun _ _ _ h => h) (Or.inl ⟨by kernel_rfl, ?_⟩) (by assumption) ?_
  rotate_left
  · intro w hSw
    go_split_ands
    go_simp
    try with_reducible rfl
  try simp only [Act.put]
  refine RegW.take (i := 34) (v := ?_) rfl (by kernel_rfl) (by kernel_rfl) (by kernel_rfl) (by kernel_rfl) (fun _ _ _ h => h) (Or.inl ⟨by kernel_rfl, ?_⟩) (by assumption) ?_
  rotate_left
  · intro w hSw
    go_split_ands
    go_simp
    try with_reducible rfl
  try simp only [Act.put]
  refine RegW.last rfl (by kernel_rfl) (by kernel_rfl) ?_
  clear hHeld
  go_wp2_with fail
  refine c9.calls0 hp.out.hb.tabs ?_
  intro w9 h9
  replace hp := bxstep h9 hp
  clear h9
  go_wp2_with fail
  go_ret
  exact ⟨rfl, hp.out.hb.since⟩

set_option maxRecDepth 100000 in
set_option maxHeartbeats 8000000 in
theorem err_16 (kek : ByteArray) (w : World) (K : Int) (k : ByteArray) (A : Option Addr) (n q : Nat) (L : List A2) (u m v e : ByteArray) (pads : ByteArray) (hx : AttsS w (.slice A n q) L) (l1 : kek.size ≤ 100) (l2 : pads.size ≤ 200) (c0 : Rec.RdR 6 L (fun x => #[rv K k u m v e x]) (.bool true)) (c1 : RdE 8 kek pads K k u m v e L (.tuple #[.string ⟨#[]⟩, .int .i64 4])) (c2 : Rec.RdR 15 L (fun x => #[rv K k u m v e x]) (.int .i64 0)) (l : ByteArray) (c3 : Ret 17 #[.int .i64 K] (.string l)) (c4 : Mak 16 #[.agg #[.string u, .string m, .string v, .string e], .string l] (.int .i64 0)) (Z : Int) (c5 : Ret 18 #[.int .i64 K] (.int .i64 Z)) (hZ : ((pads.size : Int) == Z) = true) (q0 : ((kek.size : Int) == 16) = true) (hT : K3 w) :
    Calls Tryz.prog 4 #[.string kek, .agg #[.int .i64 K, .string k, .slice A n q, .string u, .string m, .string v, .string e], .string pads] w fun x w' => x = .returned (.bool true) ∧ Since w w' := by
  have t1 : decide ((100 : Int) < (kek.size : Int)) = false := decide_eq_false (by omega)
  have t2 : decide ((200 : Int) < (pads.size : Int)) = false := decide_eq_false (by omega)
  clear l1 l2
  have hp := Lib.hid (bx_new (K := K) (k := k) (u := u) (m := m) (v := v) (e := e) hT hx)
  have c9 := awake_k
  obtain ⟨_, m0, m1, m2, m3, m4, m5, m6⟩ := bx7 hp
  clear hx hT
  go_enter Tryz.func4, Tryz.ntmps4
  go_wp2_with fail
  clear m0 m1 m2 m3 m4 m5 m6
  refine (c0.calls0 hp.out.hb.tabs.t2 hp.out.atts) ?_
  intro w1 h1
  replace hp := bxstep (by first | exact h1 | exact (Since.alloc (Since.refl _) _).step h1) hp
  clear h1
  obtain ⟨_, m0, m1, m2, m3, m4, m5, m6⟩ := bx7 hp
  go_wp2_with fail
  clear m0 m1 m2 m3 m4 m5 m6
  refine (c1.calls0 hp.out.hb.tabs hp.out.atts) ?_
  intro w2 h2
  replace hp := bxstep (by first | exact h2 | exact (Since.alloc (Since.refl _) _).step h2) hp
  clear h2
  go_wp2_with fail
  refine RegW.start (fun W' => Hid (BX w w.heap.size K k u m v e (.slice A n q) L W') ∧ W'.cell? ⟨w.heap.size, 0, none⟩ = some (.int .i64 K) ∧ W'.cell? ⟨w.heap.size, 1, none⟩ = some (.string k) ∧ W'.cell? ⟨w.heap.size, 2, none⟩ = some (.slice A n q) ∧ W'.cell? ⟨w.heap.size, 3, none⟩ = some (.string u) ∧ W'.cell? ⟨w.heap.size, 4, none⟩ = some (.string m) ∧ W'.cell? ⟨w.heap.size, 5, none⟩ = some (.string v) ∧ W'.cell? ⟨w.heap.size, 6, none⟩ = some (.string e)) 35 (by kernel_rfl) (bx7 (bxdrew hp)) (fun hHeld => ?_)
  replace hp := bxdrew hp
  refine RegW.take (i := 0) (v := ?_) rfl (by kernel_rfl) (by kernel_rfl) (by kernel_rfl) (by kernel_rfl) (fun _ _ _ h => h) (Or.inl ⟨by kernel_rfl, ?_⟩) (by assumption) ?_
  rotate_left
  · intro w hSw
    go_split_ands
    go_simp
    try with_reducible rfl
  try simp only [Act.put, List.setIfInBounds_toArray]
  refine RegW.only (i := 1) rfl (by kernel_rfl) (fun K hK => ?_)
  go_simp
  go_at_call 15
  refine c2.calls0 hp.out.hb.tabs.t2 hp.out.atts ?_
  intro w2 h2
  replace hp := bxstep h2 hp
  clear h2
  refine hK.out _ _ (bx7 hp) (fun hHeld => ?_)
  clear hK K
  try simp only [Act.put, List.setIfInBounds_toArray, List.set_cons_zero, List.set_cons_succ]
  refine RegW.take (i := 2) (v := ?_) rfl (by kernel_rfl) (by kernel_rfl) (by kernel_rfl) (by kernel_rfl) (fun _ _ _ h => h) (Or.inl ⟨by kernel_rfl, ?_⟩) (by assumption) ?_
  rotate_left
  · intro w hSw
    go_split_ands
    go_simp
    try with_reducible rfl
  try simp only [Act.put, List.setIfInBounds_toArray]
  refine RegW.take (i := 3) (v := ?_) rfl (by kernel_rfl) (by kernel_rfl) (by kernel_rfl) (by kernel_rfl) (fun _ _ _ h => h) (Or.inl ⟨by kernel_rfl, ?_⟩) (by assumption) ?_
  rotate_left
  · intro w hSw
    go_split_ands
    go_simp
    try with_reducible rfl
  try simp only [Act.put]
  refine RegW.take (i := 4) (v := ?_) rfl (by kernel_rfl) (by kernel_rfl) (by kernel_rfl) (by kernel_rfl) (fun _ _ _ h => h) (Or.inl ⟨by kernel_rfl, ?_⟩) (by assumption) ?_
  rotate_left
  · intro w hSw
    go_split_ands
    go_simp
    try with_reducible rfl
  try simp only [Act.put]
  refine RegW.take (i := 5) (v := ?_) rfl (by kernel_rfl) (by kernel_rfl) (by kernel_rfl) (by kernel_rfl) (fun _ _ _ h => h) (Or.inl ⟨by kernel_rfl, ?_⟩) (by assumption) ?_
  rotate_left
  · intro w hSw
    go_split_ands
    go_simp
    try with_reducible rfl
  try simp only [Act.put]
  refine RegW.take (i := 6) (v := ?_) rfl (by kernel_rfl) (by kernel_rfl) (by kernel_rfl) (by kernel_rfl) (fun _ _ _ h => h) (Or.inl ⟨by kernel_rfl, ?_⟩) (by assumption) ?_
  rotate_left
  · intro w hSw
    go_split_ands
    go_simp
    try with_reducible rfl
  try simp only [Act.put]
  refine RegW.take (i := 7) (v := ?_) rfl (by kernel_rfl) (by kernel_rfl) (by kernel_rfl) (by kernel_rfl) (fun _ _ _ h => h) (Or.inl ⟨by kernel_rfl, ?_⟩) (by assumption) ?_
  rotate_left
  · intro w hSw
    go_split_ands
    go_simp
    try with_reducible rfl
  try simp only [Act.put]
  refine RegW.only (i := 8) rfl (by kernel_rfl) (fun K hK => ?_)
  go_simp
  go_at_call 17
  refine c3.calls ?_
  refine hK.out _ _ (bx7 hp) (fun hHeld => ?_)
  clear hK K
  try simp only [Act.put, List.setIfInBounds_toArray, List.set_cons_zero, List.set_cons_succ]
  refine RegW.only (i := 9) rfl (by kernel_rfl) (fun K hK => ?_)
  go_simp
  go_at_call 16
  refine c4.calls0  ?_
  intro w4 h4
  replace hp := bxstep h4 hp
  clear h4
  refine hK.out _ _ (bx7 hp) (fun hHeld => ?_)
  clear hK K
  try simp only [Act.put, List.setIfInBounds_toArray, List.set_cons_zero, List.set_cons_succ]
  refine RegW.take (i := 10) (v := ?_) rfl (by kernel_rfl) (by kernel_rfl) (by kernel_rfl) (by kernel_rfl) (fun _ _ _ h => h) (Or.inl ⟨by kernel_rfl, ?_⟩) (by assumption) ?_
  rotate_left
  · intro w hSw
    go_split_ands
    go_simp
    try with_reducible rfl
  try simp only [Act.put, List.setIfInBounds_toArray]
  refine RegW.take (i := 11) (v := ?_) rfl (by kernel_rfl) (by kernel_rfl) (by kernel_rfl) (by kernel_rfl) (fun _ _ _ h => h) (Or.inl ⟨by kernel_rfl, ?_⟩) (by assumption) ?_
  rotate_left
  · intro w hSw
    go_split_ands
    go_simp
    try with_reducible rfl
  try simp only [Act.put]
  refine RegW.take (i := 12) (v := ?_) rfl (by kernel_rfl) (by kernel_rfl) (by kernel_rfl) (by kernel_rfl) (fun _ _ _ h => h) (Or.inl ⟨by kernel_rfl, ?_⟩) (by assumption) ?_
  rotate_left
  · intro w hSw
    go_split_ands
    go_simp
    try with_reducible rfl
  try simp only [Act.put]
  refine RegW.take (i := 13) (v := ?_) rfl (by kernel_rfl) (by kernel_rfl) (by kernel_rfl) (by kernel_rfl) (fun _ _ _ h => h) (Or.inl ⟨by kernel_rfl, ?_⟩) (by assumption) ?_
  rotate_left
  · intro w hSw
    go_split_ands
    go_simp
    try with_reducible rfl
  try simp only [Act.put]
  refine RegW.take (i := 14) (v := ?_) rfl (by kernel_rfl) (by kernel_rfl) (by kernel_rfl) (by kernel_rfl) (fun _ _ _ h => h) (Or.inl ⟨by kernel_rfl, ?_⟩) (by assumption) ?_
  rotate_left
  · intro w hSw
    go_split_ands
    go_simp
    try with_reducible rfl
  try simp only [Act.put]
  refine RegW.take (i := 15) (v := ?_) rfl (by kernel_rfl) (by kernel_rfl) (by kernel_rfl) (by kernel_rfl) (fun _ _ _ h => h) (Or.inl ⟨by kernel_rfl, ?_⟩) (by assumption) ?_
  rotate_left
  · intro w hSw
    go_split_ands
    go_simp
    try with_reducible rfl
  try simp only [Act.put]
  refine RegW.take (i := 16) (v := ?_) rfl (by kernel_rfl) (by kernel_rfl) (by kernel_rfl) (by kernel_rfl) (fun _ _ _ h => h) (Or.inl ⟨by kernel_rfl, ?_⟩) (by assumption) ?_
  rotate_left
  · intro w hSw
    go_split_ands
    go_simp
    try with_reducible rfl
  try simp only [Act.put]
  refine RegW.only (i := 17) rfl (by kernel_rfl) (fun K hK => ?_)
  go_simp
  go_at_call 18
  refine c5.calls ?_
  refine hK.out _ _ (bx7 hp) (fun hHeld => ?_)
  clear hK K
  try simp only [Act.put, List.setIfInBounds_toArray, List.set_cons_zero, List.set_cons_succ]
  refine RegW.take (i := 18) (v := ?_) rfl (by kernel_rfl) (by kernel_rfl) (by kernel_rfl) (by kernel_rfl) (fun _ _ _ h => h) (Or.inl ⟨by kernel_rfl, ?_⟩) (by assumption) ?_
  rotate_left
  · intro w hSw
    go_split_ands
    go_simp
    try with_reducible rfl
  try simp only [Act.put, List.setIfInBounds_toArray]
  refine RegW.take (i := 19) (v := ?_) rfl (by kernel_rfl) (by kernel_rfl) (by kernel_rfl) (by kernel_rfl) (fun _ _ _ h => h) (Or.inl ⟨by kernel_rfl, ?_⟩) (by assumption) ?_
  rotate_left
  · intro w hSw
    go_split_ands
    go_simp
    try with_reducible rfl
  try simp only [Act.put]
  refine RegW.take (i := 20) (v := ?_) rfl (by kernel_rfl) (by kernel_rfl) (by kernel_rfl) (by kernel_rfl) (fun _ _ _ h => h) (Or.inl ⟨by kernel_rfl, ?_⟩) (by assumption) ?_
  rotate_left
  · intro w hSw
    go_split_ands
    go_simp
    try with_reducible rfl
  try simp only [Act.put]
  refine RegW.take (i := 21) (v := ?_) rfl (by kernel_rfl) (by kernel_rfl) (by kernel_rfl) (by kernel_rfl) (fun _ _ _ h => h) (Or.inl ⟨by kernel_rfl, ?_⟩) (by assumption) ?_
  rotate_left
  · intro w hSw
    go_split_ands
    go_simp
    try with_reducible rfl
  try simp only [Act.put]
  refine RegW.take (i := 22) (v := ?_) rfl (by kernel_rfl) (by kernel_rfl) (by kernel_rfl) (by kernel_rfl) (fun _ _ _ h => h) (Or.inl ⟨by kernel_rfl, ?_⟩) (by assumption) ?_
  rotate_left
  · intro w hSw
    go_split_ands
    go_simp
    try with_reducible rfl
  try simp only [Act.put]
  refine RegW.take (i := 23) (v := ?_) rfl (by kernel_rfl) (by kernel_rfl) (by kernel_rfl) (by kernel_rfl) (fun _ _ _ h => h) (Or.inl ⟨by kernel_rfl, ?_⟩) (by assumption) ?_
  rotate_left
  · intro w hSw
    go_split_ands
    go_simp
    try with_reducible rfl
  try simp only [Act.put]
  refine RegW.take (i := 24) (v := ?_) rfl (by kernel_rfl) (by kernel_rfl) (by kernel_rfl) (by kernel_rfl) (fun _ _ _ h => h) (Or.inl ⟨by kernel_rfl, ?_⟩) (by assumption) ?_
  rotate_left
  · intro w hSw
    go_split_ands
    go_simp
    try with_reducible rfl
  try simp only [Act.put]
  refine RegW.take (i := 25) (v := undef) rfl (by kernel_rfl) (by kernel_rfl) (by kernel_rfl) (by kernel_rfl) (fun _ _ _ h => h) (Or.inr ⟨by kernel_rfl, rfl⟩) (by assumption) ?_
  try simp only [Act.put]
  refine RegW.take (i := 26) (v := undef) rfl (by kernel_rfl) (by kernel_rfl) (by kernel_rfl) (by kernel_rfl) (fun _ _ _ h => h) (Or.inr ⟨by kernel_rfl, rfl⟩) (by assumption) ?_
  try simp only [Act.put]
  refine RegW.take (i := 27) (v := undef) rfl (by kernel_rfl) (by kernel_rfl) (by kernel_rfl) (by kernel_rfl) (fun _ _ _ h => h) (Or.inr ⟨by kernel_rfl, rfl⟩) (by assumption) ?_
  try simp only [Act.put]
  refine RegW.take (i := 28) (v := ?_) rfl (by kernel_rfl) (by kernel_rfl) (by kernel_rfl) (by kernel_rfl) (fun _ _ _ h => h) (Or.inl ⟨by kernel_rfl, ?_⟩) (by assumption) ?_
  rotate_left
  · intro w hSw
    go_split_ands
    go_simp
    try with_reducible rfl
  try simp only [Act.put]
  refine RegW.take (i := 29) (v := ?_) rfl (by kernel_rfl) (by kernel_rfl) (by kernel_rfl) (by kernel_rfl) (fun _ _ _ h => h) (Or.inl ⟨by kernel_rfl, ?_⟩) (by assumption) ?_
  rotate_left
  · intro w hSw
    go_split_ands
    go_simp
    try with_reducible rfl
  try simp only [Act.put]
  refine RegW.take (i := 30) (v := undef) rfl (by kernel_rfl) (by kernel_rfl) (by kernel_rfl) (by kernel_rfl) (fun _ _ _ h => h) (Or.inr ⟨by kernel_rfl, rfl⟩) (by assumption) ?_
  try simp only [Act.put]
  refine RegW.take (i := 31) (v := undef) rfl (by kernel_rfl) (by kernel_rfl) (by kernel_rfl) (by kernel_rfl) (fun _ _ _ h => h) (Or.inr ⟨by kernel_rfl, rfl⟩) (by assumption) ?_
  try simp only [Act.put]
  refine RegW.take (i := 32) (v := undef) rfl (by kernel_rfl) (by kernel_rfl) (by kernel_rfl) (by kernel_rfl) (fun _ _ _ h => h) (Or.inr ⟨by kernel_rfl, rfl⟩) (by assumption) ?_
  try simp only [Act.put]
  refine RegW.take (i := 33) (v := ?_) rfl (by kernel_rfl) (by kernel_rfl) (by kernel_rfl) (by kernel_rfl) (fun _ _ _ h => h) (Or.inl ⟨by kernel_rfl, ?_⟩) (by assumption) ?_
  rotate_left
  · intro w hSw
    go_split_ands
    go_simp
    try with_reducible rfl
  try simp only [Act.put]
  refine RegW.take (i := 34) (v := ?_) rfl (by kernel_rfl) (by kernel_rfl) (by kernel_rfl) (by kernel_rfl) (fun _ _ _ h => h) (Or.inl ⟨by kernel_rfl, ?_⟩) (by assumption) ?_
  rotate_left
  · intro w hSw
    go_split_ands
    go_simp
    try with_reducible rfl
  try simp only [Act.put]
  refine RegW.last rfl (by kernel_rfl) (by kernel_rfl) ?_
  clear hHeld
  go_wp2_with fail
  refine c9.calls0 hp.out.hb.tabs ?_
  intro w9 h9
  replace hp := bxstep h9 hp
  clear h9
  go_wp2_with fail
  go_ret
  exact ⟨rfl, hp.out.hb.since⟩

set_option maxRecDepth 100000 in
set_option maxHeartbeats 8000000 in
theorem err_24 (kek : ByteArray) (w : World) (K : Int) (k : ByteArray) (A : Option Addr) (n q : Nat) (L : List A2) (u m v e : ByteArray) (pads : ByteArray) (hx : AttsS w (.slice A n q) L) (l1 : kek.size ≤ 100) (l2 : pads.size ≤ 200) (c0 : Rec.RdR 6 L (fun x => #[rv K k u m v e x]) (.bool true)) (c1 : RdE 8 kek pads K k u m v e L (.tuple #[.string ⟨#[]⟩, .int .i64 4])) (c2 : Rec.RdR 15 L (fun x => #[rv K k u m v e x]) (.int .i64 0)) (l : ByteArray) (c3 : Ret 17 #[.int .i64 K] (.string l)) (c4 : Mak 16 #[.agg #[.string u, .string m, .string v, .string e], .string l] (.int .i64 0)) (Z : Int) (c5 : Ret 18 #[.int .i64 K] (.int .i64 Z)) (hZ : ((pads.size : Int) == Z) = true) (q0 : ((kek.size : Int) == 16) = false) (q1 : ((kek.size : Int) == 24) = true) (hT : K3 w) :
    Calls Tryz.prog 4 #[.string kek, .agg #[.int .i64 K, .string k, .slice A n q, .string u, .string m, .string v, .string e], .string pads] w fun x w' => x = .returned (.bool true) ∧ Since w w' := by
  have t1 : decide ((100 : Int) < (kek.size : Int)) = false := decide_eq_false (by omega)
  have t2 : decide ((200 : Int) < (pads.size : Int)) = false := decide_eq_false (by omega)
  clear l1 l2
  have hp := Lib.hid (bx_new (K := K) (k := k) (u := u) (m := m) (v := v) (e := e) hT hx)
  have c9 := awake_k
  obtain ⟨_, m0, m1, m2, m3, m4, m5, m6⟩ := bx7 hp
  clear hx hT
  go_enter Tryz.func4, Tryz.ntmps4
  go_wp2_with fail
  clear m0 m1 m2 m3 m4 m5 m6
  refine (c0.calls0 hp.out.hb.tabs.t2 hp.out.atts) ?_
  intro w1 h1
  replace hp := bxstep (by first | exact h1 | exact (Since.alloc (Since.refl _) _).step h1) hp
  clear h1
  obtain ⟨_, m0, m1, m2, m3, m4, m5, m6⟩ := bx7 hp
  go_wp2_with fail
  clear m0 m1 m2 m3 m4 m5 m6
  refine (c1.calls0 hp.out.hb.tabs hp.out.atts) ?_
  intro w2 h2
  replace hp := bxstep (by first | exact h2 | exact (Since.alloc (Since.refl _) _).step h2) hp
  clear h2
  go_wp2_with fail
  refine RegW.start (fun W' => Hid (BX w w.heap.size K k u m v e (.slice A n q) L W') ∧ W'.cell? ⟨w.heap.size, 0, none⟩ = some (.int .i64 K) ∧ W'.cell? ⟨w.heap.size, 1, none⟩ = some (.string k) ∧ W'.cell? ⟨w.heap.size, 2, none⟩ = some (.slice A n q) ∧ W'.cell? ⟨w.heap.size, 3, none⟩ = some (.string u) ∧ W'.cell? ⟨w.heap.size, 4, none⟩ = some (.string m) ∧ W'.cell? ⟨w.heap.size, 5, none⟩ = some (.string v) ∧ W'.cell? ⟨w.heap.size, 6, none⟩ = some (.string e)) 35 (by kernel_rfl) (bx7 (bxdrew hp)) (fun hHeld => ?_)
  replace hp := bxdrew hp
  refine RegW.take (i := 0) (v := ?_) rfl (by kernel_rfl) (by kernel_rfl) (by kernel_rfl) (by kernel_rfl) (fun _ _ _ h => h) (Or.inl ⟨by kernel_rfl, ?_⟩) (by assumption) ?_
  rotate_left
  · intro w hSw
    go_split_ands
    go_simp
    try with_reducible rfl
  try simp only [Act.put, List.setIfInBounds_toArray]
  refine RegW.only (i := 1) rfl (by kernel_rfl) (fun K hK => ?_)
  go_simp
  go_at_call 15
  refine c2.calls0 hp.out.hb.tabs.t2 hp.out.atts ?_
  intro w2 h2
  replace hp := bxstep h2 hp
  clear h2
  refine hK.out _ _ (bx7 hp) (fun hHeld => ?_)
  clear hK K
  try simp only [Act.put, List.setIfInBounds_toArray, List.set_cons_zero, List.set_cons_succ]
  refine RegW.take (i := 2) (v := ?_) rfl (by kernel_rfl) (by kernel_rfl) (by kernel_rfl) (by kernel_rfl) (fun _ _ _ h => h) (Or.inl ⟨by kernel_rfl, ?_⟩) (by assumption) ?_
  rotate_left
  · intro w hSw
    go_split_ands
    go_simp
    try with_reducible rfl
  try simp only [Act.put, List.setIfInBounds_toArray]
  refine RegW.take (i := 3) (v := ?_) rfl (by kernel_rfl) (by kernel_rfl) (by kernel_rfl) (by kernel_rfl) (fun _ _ _ h => h) (Or.inl ⟨by kernel_rfl, ?_⟩) (by assumption) ?_
  rotate_left
  · intro w hSw
    go_split_ands
    go_simp
    try with_reducible rfl
  try simp only [Act.put]
  refine RegW.take (i := 4) (v := ?_) rfl (by kernel_rfl) (by kernel_rfl) (by kernel_rfl) (by kernel_rfl) (fun _ _ _ h => h) (Or.inl ⟨by kernel_rfl, ?_⟩) (by assumption) ?_
  rotate_left
  · intro w hSw
    go_split_ands
    go_simp
    try with_reducible rfl
  try simp only [Act.put]
  refine RegW.take (i := 5) (v := ?_) rfl (by kernel_rfl) (by kernel_rfl) (by kernel_rfl) (by kernel_rfl) (fun _ _ _ h => h) (Or.inl ⟨by kernel_rfl, ?_⟩) (by assumption) ?_
  rotate_left
  · intro w hSw
    go_split_ands
    go_simp
    try with_reducible rfl
  try simp only [Act.put]
  refine RegW.take (i := 6) (v := ?_) rfl (by kernel_rfl) (by kernel_rfl) (by kernel_rfl) (by kernel_rfl) (fun _ _ _ h => h) (Or.inl ⟨by kernel_rfl, ?_⟩) (by assumption) ?_
  rotate_left
  · intro w hSw
    go_split_ands
    go_simp
    try with_reducible rfl
  try simp only [Act.put]
  refine RegW.take (i := 7) (v := ?_) rfl (by kernel_rfl) (by kernel_rfl) (by kernel_rfl) (by kernel_rfl) (fun _ _ _ h => h) (Or.inl ⟨by kernel_rfl, ?_⟩) (by assumption) ?_
  rotate_left
  · intro w hSw
    go_split_ands
    go_simp
    try with_reducible rfl
  try simp only [Act.put]
  refine RegW.only (i := 8) rfl (by kernel_rfl) (fun K hK => ?_)
  go_simp
  go_at_call 17
  refine c3.calls ?_
  refine hK.out _ _ (bx7 hp) (fun hHeld => ?_)
  clear hK K
  try simp only [Act.put, List.setIfInBounds_toArray, List.set_cons_zero, List.set_cons_succ]
  refine RegW.only (i := 9) rfl (by kernel_rfl) (fun K hK => ?_)
  go_simp
  go_at_call 16
  refine c4.calls0  ?_
  intro w4 h4
  replace hp := bxstep h4 hp
  clear h4
  refine hK.out _ _ (bx7 hp) (fun hHeld => ?_)
  clear hK K
  try simp only [Act.put, List.setIfInBounds_toArray, List.set_cons_zero, List.set_cons_succ]
  refine RegW.take (i := 10) (v := ?_) rfl (by kernel_rfl) (by kernel_rfl) (by kernel_rfl) (by kernel_rfl) (fun _ _ _ h => h) (Or.inl ⟨by kernel_rfl, ?_⟩) (by assumption) ?_
  rotate_left
  · intro w hSw
    go_split_ands
    go_simp
    try with_reducible rfl
  try simp only [Act.put, List.setIfInBounds_toArray]
  refine RegW.take (i := 11) (v := ?_) rfl (by kernel_rfl) (by kernel_rfl) (by kernel_rfl) (by kernel_rfl) (fun _ _ _ h => h) (Or.inl ⟨by kernel_rfl, ?_⟩) (by assumption) ?_
  rotate_left
  · intro w hSw
    go_split_ands
    go_simp
    try with_reducible rfl
  try simp only [Act.put]
  refine RegW.take (i := 12) (v := ?_) rfl (by kernel_rfl) (by kernel_rfl) (by kernel_rfl) (by kernel_rfl) (fun _ _ _ h => h) (Or.inl ⟨by kernel_rfl, ?_⟩) (by assumption) ?_
  rotate_left
  · intro w hSw
    go_split_ands
    go_simp
    try with_reducible rfl
  try simp only [Act.put]
  refine RegW.take (i := 13) (v := ?_) rfl (by kernel_rfl) (by kernel_rfl) (by kernel_rfl) (by kernel_rfl) (fun _ _ _ h => h) (Or.inl ⟨by kernel_rfl, ?_⟩) (by assumption) ?_
  rotate_left
  · intro w hSw
    go_split_ands
    go_simp
    try with_reducible rfl
  try simp only [Act.put]
  refine RegW.take (i := 14) (v := ?_) rfl (by kernel_rfl) (by kernel_rfl) (by kernel_rfl) (by kernel_rfl) (fun _ _ _ h => h) (Or.inl ⟨by kernel_rfl, ?_⟩) (by assumption) ?_
  rotate_left
  · intro w hSw
    go_split_ands
    go_simp
    try with_reducible rfl
  try simp only [Act.put]
  refine RegW.take (i := 15) (v := ?_) rfl (by kernel_rfl) (by kernel_rfl) (by kernel_rfl) (by kernel_rfl) (fun _ _ _ h => h) (Or.inl ⟨by kernel_rfl, ?_⟩) (by assumption) ?_
  rotate_left
  · intro w hSw
    go_split_ands
    go_simp
    try with_reducible rfl
  try simp only [Act.put]
  refine RegW.take (i := 16) (v := ?_) rfl (by kernel_rfl) (by kernel_rfl) (by kernel_rfl) (by kernel_rfl) (fun _ _ _ h => h) (Or.inl ⟨by kernel_rfl, ?_⟩) (by assumption) ?_
  rotate_left
  · intro w hSw
    go_split_ands
    go_simp
    try with_reducible rfl
  try simp only [Act.put]
  refine RegW.only (i := 17) rfl (by kernel_rfl) (fun K hK => ?_)
  go_simp
  go_at_call 18
  refine c5.calls ?_
  refine hK.out _ _ (bx7 hp) (fun hHeld => ?_)
  clear hK K
  try simp only [Act.put, List.setIfInBounds_toArray, List.set_cons_zero, List.set_cons_succ]
  refine RegW.take (i := 18) (v := ?_) rfl (by kernel_rfl) (by kernel_rfl) (by kernel_rfl) (by kernel_rfl) (fun _ _ _ h => h) (Or.inl ⟨by kernel_rfl, ?_⟩) (by assumption) ?_
  rotate_left
  · intro w hSw
    go_split_ands
    go_simp
    try with_reducible rfl
  try simp only [Act.put, List.setIfInBounds_toArray]
  refine RegW.take (i := 19) (v := ?_) rfl (by kernel_rfl) (by kernel_rfl) (by kernel_rfl) (by kernel_rfl) (fun _ _ _ h => h) (Or.inl ⟨by kernel_rfl, ?_⟩) (by assumption) ?_
  rotate_left
  · intro w hSw
    go_split_ands
    go_simp
    try with_reducible rfl
  try simp only [Act.put]
  refine RegW.take (i := 20) (v := ?_) rfl (by kernel_rfl) (by kernel_rfl) (by kernel_rfl) (by kernel_rfl) (fun _ _ _ h => h) (Or.inl ⟨by kernel_rfl, ?_⟩) (by assumption) ?_
  rotate_left
  · intro w hSw
    go_split_ands
    go_simp
    try with_reducible rfl
  try simp only [Act.put]
  refine RegW.take (i := 21) (v := ?_) rfl (by kernel_rfl) (by kernel_rfl) (by kernel_rfl) (by kernel_rfl) (fun _ _ _ h => h) (Or.inl ⟨by kernel_rfl, ?_⟩) (by assumption) ?_
  rotate_left
  · intro w hSw
    go_split_ands
    go_simp
    try with_reducible rfl
  try simp only [Act.put]
  refine RegW.take (i := 22) (v := ?_) rfl (by kernel_rfl) (by kernel_rfl) (by kernel_rfl) (by kernel_rfl) (fun _ _ _ h => h) (Or.inl ⟨by kernel_rfl, ?_⟩) (by assumption) ?_
  rotate_left
  · intro w hSw
    go_split_ands
    go_simp
    try with_reducible rfl
  try simp only [Act.put]
  refine RegW.take (i := 23) (v := ?_) rfl (by kernel_rfl) (by kernel_rfl) (by kernel_rfl) (by kernel_rfl) (fun _ _ _ h => h) (Or.inl ⟨by kernel_rfl, ?_⟩) (by assumption) ?_
  rotate_left
  · intro w hSw
    go_split_ands
    go_simp
    try with_reducible rfl
  try simp only [Act.put]
  refine RegW.take (i := 24) (v := ?_) rfl (by kernel_rfl) (by kernel_rfl) (by kernel_rfl) (by kernel_rfl) (fun _ _ _ h => h) (Or.inl ⟨by kernel_rfl, ?_⟩) (by assumption) ?_
  rotate_left
  · intro w hSw
    go_split_ands
    go_simp
    try with_reducible rfl
  try simp only [Act.put]
  refine RegW.take (i := 25) (v := ?_) rfl (by kernel_rfl) (by kernel_rfl) (by kernel_rfl) (by kernel_rfl) (fun _ _ _ h => h) (Or.inl ⟨by kernel_rfl, ?_⟩) (by assumption) ?_
  rotate_left
  · intro w hSw
    go_split_ands
    go_simp
    try with_reducible rfl
  try simp only [Act.put]
  refine RegW.take (i := 26) (v := ?_) rfl (by kernel_rfl) (by kernel_rfl) (by kernel_rfl) (by kernel_rfl) (fun _ _ _ h => h) (Or.inl ⟨by kernel_rfl, ?_⟩) (by assumption) ?_
  rotate_left
  · intro w hSw
    go_split_ands
    go_simp
    try with_reducible rfl
  try simp only [Act.put]
  refine RegW.take (i := 27) (v := ?_) rfl (by kernel_rfl) (by kernel_rfl) (by kernel_rfl) (by kernel_rfl) (fun _ _ _ h => h) (Or.inl ⟨by kernel_rfl, ?_⟩) (by assumption) ?_
  rotate_left
  · intro w hSw
    go_split_ands
    go_simp
    try with_reducible rfl
  try simp only [Act.put]
  refine RegW.take (i := 28) (v := ?_) rfl (by kernel_rfl) (by kernel_rfl) (by kernel_rfl) (by kernel_rfl) (fun _ _ _ h => h) (Or.inl ⟨by kernel_rfl, ?_⟩) (by assumption) ?_
  rotate_left
  · intro w hSw
    go_split_ands
    go_simp
    try with_reducible rfl
  try simp only [Act.put]
  refine RegW.take (i := 29) (v := ?_) rfl (by kernel_rfl) (by kernel_rfl) (by kernel_rfl) (by kernel_rfl) (fun _ _ _ h => h) (Or.inl ⟨by kernel_rfl, ?_⟩) (by assumption) ?_
  rotate_left
  · intro w hSw
    go_split_ands
    go_simp
    try with_reducible rfl
  try simp only [Act.put]
  refine RegW.take (i := 30) (v := undef) rfl (by kernel_rfl) (by kernel_rfl) (by kernel_rfl) (by kernel_rfl) (fun _ _ _ h => h) (Or.inr ⟨by kernel_rfl, rfl⟩) (by assumption) ?_
  try simp only [Act.put]
  refine RegW.take (i := 31) (v := undef) rfl (by kernel_rfl) (by kernel_rfl) (by kernel_rfl) (by kernel_rfl) (fun _ _ _ h => h) (Or.inr ⟨by kernel_rfl, rfl⟩) (by assumption) ?_
  try simp only [Act.put]
  refine RegW.take (i := 32) (v := undef) rfl (by kernel_rfl) (by kernel_rfl) (by kernel_rfl) (by kernel_rfl) (fun _ _ _ h => h) (Or.inr ⟨by kernel_rfl, rfl⟩) (by assumption) ?_
  try simp only [Act.put]
  refine RegW.take (i := 33) (v := ?_) rfl (by kernel_rfl) (by kernel_rfl) (by kernel_rfl) (by kernel_rfl) (fun _ _ _ h => h) (Or.inl ⟨by kernel_rfl, ?_⟩) (by assumption) ?_
  rotate_left
  · intro w hSw
    go_split_ands
    go_simp
    try with_reducible rfl
  try simp only [Act.put]
  refine RegW.take (i := 34) (v := ?_) rfl (by kernel_rfl) (by kernel_rfl) (by kernel_rfl) (by kernel_rfl) (fun _ _ _ h => h) (Or.inl ⟨by kernel_rfl, ?_⟩) (by assumption) ?_
  rotate_left
  · intro w hSw
    go_split_ands
    go_simp
    try with_reducible rfl
  try simp only [Act.put]
  refine RegW.last rfl (by kernel_rfl) (by kernel_rfl) ?_
  clear hHeld
  go_wp2_with fail
  refine c9.calls0 hp.out.hb.tabs ?_
  intro w9 h9
  replace hp := bxstep h9 hp
  clear h9
  go_wp2_with fail
  go_ret
  exact ⟨rfl, hp.out.hb.since⟩

set_option maxRecDepth 100000 in
set_option maxHeartbeats 8000000 in
theorem err_32 (kek : ByteArray) (w : World) (K : Int) (k : ByteArray) (A : Option Addr) (n q : Nat) (L : List A2) (u m v e : ByteArray) (pads : ByteArray) (hx : AttsS w (.slice A n q) L) (l1 : kek.size ≤ 100) (l2 : pads.size ≤ 200) (c0 : Rec.RdR 6 L (fun x => #[rv K k u m v e x]) (.bool true)) (c1 : RdE 8 kek pads K k u m v e L (.tuple #[.string ⟨#[]⟩, .int .i64 4])) (c2 : Rec.RdR 15 L (fun x => #[rv K k u m v e x]) (.int .i64 0)) (l : ByteArray) (c3 : Ret 17 #[.int .i64 K] (.string l)) (c4 : Mak 16 #[.agg #[.string u, .string m, .string v, .string e], .string l] (.int .i64 0)) (Z : Int) (c5 : Ret 18 #[.int .i64 K] (.int .i64 Z)) (hZ : ((pads.size : Int) == Z) = true) (q0 : ((kek.size : Int) == 16) = false) (q1 : ((kek.size : Int) == 24) = false) (q2 : ((kek.size : Int) == 32) = true) (hT : K3 w) :
    Calls Tryz.prog 4 #[.string kek, .agg #[.int .i64 K, .string k, .slice A n q, .string u, .string m, .string v, .string e], .string pads] w fun x w' => x = .returned (.bool true) ∧ Since w w' := by
  have t1 : decide ((100 : Int) < (kek.size : Int)) = false := decide_eq_false (by omega)
  have t2 : decide ((200 : Int) < (pads.size : Int)) = false := decide_eq_false (by omega)
  clear l1 l2
  have hp := Lib.hid (bx_new (K := K) (k := k) (u := u) (m := m) (v := v) (e := e) hT hx)
  have c9 := awake_k
  obtain ⟨_, m0, m1, m2, m3, m4, m5, m6⟩ := bx7 hp
  clear hx hT
  go_enter Tryz.func4, Tryz.ntmps4
  go_wp2_with fail
  clear m0 m1 m2 m3 m4 m5 m6
  refine (c0.calls0 hp.out.hb.tabs.t2 hp.out.atts) ?_
  intro w1 h1
  replace hp := bxstep (by first | exact h1 | exact (Since.alloc (Since.refl _) _).step h1) hp
  clear h1
  obtain ⟨_, m0, m1, m2, m3, m4, m5, m6⟩ := bx7 hp
  go_wp2_with fail
  clear m0 m1 m2 m3 m4 m5 m6
  refine (c1.calls0 hp.out.hb.tabs hp.out.atts) ?_
  intro w2 h2
  replace hp := bxstep (by first | exact h2 | exact (Since.alloc (Since.refl _) _).step h2) hp
  clear h2
  go_wp2_with fail
  refine RegW.start (fun W' => Hid (BX w w.heap.size K k u m v e (.slice A n q) L W') ∧ W'.cell? ⟨w.heap.size, 0, none⟩ = some (.int .i64 K) ∧ W'.cell? ⟨w.heap.size, 1, none⟩ = some (.string k) ∧ W'.cell? ⟨w.heap.size, 2, none⟩ = some (.slice A n q) ∧ W'.cell? ⟨w.heap.size, 3, none⟩ = some (.string u) ∧ W'.cell? ⟨w.heap.size, 4, none⟩ = some (.string m) ∧ W'.cell? ⟨w.heap.size, 5, none⟩ = some (.string v) ∧ W'.cell? ⟨w.heap.size, 6, none⟩ = some (.string e)) 35 (by kernel_rfl) (bx7 (bxdrew hp)) (fun hHeld => ?_)
  replace hp := bxdrew hp
  refine RegW.take (i := 0) (v := ?_) rfl (by kernel_rfl) (by kernel_rfl) (by kernel_rfl) (by kernel_rfl) (fun _ _ _ h => h) (Or.inl ⟨by kernel_rfl, ?_⟩) (by assumption) ?_
  rotate_left
  · intro w hSw
    go_split_ands
    go_simp
    try with_reducible rfl
  try simp only [Act.put, List.setIfInBounds_toArray]
  refine RegW.only (i := 1) rfl (by kernel_rfl) (fun K hK => ?_)
  go_simp
  go_at_call 15
  refine c2.calls0 hp.out.hb.tabs.t2 hp.out.atts ?_
  intro w2 h2
  replace hp := bxstep h2 hp
  clear h2
  refine hK.out _ _ (bx7 hp) (fun hHeld => ?_)
  clear hK K
  try simp only [Act.put, List.setIfInBounds_toArray, List.set_cons_zero, List.set_cons_succ]
  refine RegW.take (i := 2) (v := ?_) rfl (by kernel_rfl) (by kernel_rfl) (by kernel_rfl) (by kernel_rfl) (fun _ _ _ h => h) (Or.inl ⟨by kernel_rfl, ?_⟩) (by assumption) ?_
  rotate_left
  · intro w hSw
    go_split_ands
    go_simp
    try with_reducible rfl
  try simp only [Act.put, List.setIfInBounds_toArray]
  refine RegW.take (i := 3) (v := ?_) rfl (by kernel_rfl) (by kernel_rfl) (by kernel_rfl) (by kernel_rfl) (fun _ _ _ h => h) (Or.inl ⟨by kernel_rfl, ?_⟩) (by assumption) ?_
  rotate_left
  · intro w hSw
    go_split_ands
    go_simp
    try with_reducible rfl
  try simp only [Act.put]
  refine RegW.take (i := 4) (v := ?_) rfl (by kernel_rfl) (by kernel_rfl) (by kernel_rfl) (by kernel_rfl) (fun _ _ _ h => h) (Or.inl ⟨by kernel_rfl, ?_⟩) (by assumption) ?_
  rotate_left
  · intro w hSw
    go_split_ands
    go_simp
    try with_reducible rfl
  try simp only [Act.put]
  refine RegW.take (i := 5) (v := ?_) rfl (by kernel_rfl) (by kernel_rfl) (by kernel_rfl) (by kernel_rfl) (fun _ _ _ h => h) (Or.inl ⟨by kernel_rfl, ?_⟩) (by assumption) ?_
  rotate_left
  · intro w hSw
    go_split_ands
    go_simp
    try with_reducible rfl
  try simp only [Act.put]
  refine RegW.take (i := 6) (v := ?_) rfl (by kernel_rfl) (by kernel_rfl) (by kernel_rfl) (by kernel_rfl) (fun _ _ _ h => h) (Or.inl ⟨by kernel_rfl, ?_⟩) (by assumption) ?_
  rotate_left
  · intro w hSw
    go_split_ands
    go_simp
    try with_reducible rfl
  try simp only [Act.put]
  refine RegW.take (i := 7) (v := ?_) rfl (by kernel_rfl) (by kernel_rfl) (by kernel_rfl) (by kernel_rfl) (fun _ _ _ h => h) (Or.inl ⟨by kernel_rfl, ?_⟩) (by assumption) ?_
  rotate_left
  · intro w hSw
    go_split_ands
    go_simp
    try with_reducible rfl
  try simp only [Act.put]
  refine RegW.only (i := 8) rfl (by kernel_rfl) (fun K hK => ?_)
  go_simp
  go_at_call 17
  refine c3.calls ?_
  refine hK.out _ _ (bx7 hp) (fun hHeld => ?_)
  clear hK K
  try simp only [Act.put, List.setIfInBounds_toArray, List.set_cons_zero, List.set_cons_succ]
  refine RegW.only (i := 9) rfl (by kernel_rfl) (fun K hK => ?_)
  go_simp
  go_at_call 16
  refine c4.calls0  ?_
  intro w4 h4
  replace hp := bxstep h4 hp
  clear h4
  refine hK.out _ _ (bx7 hp) (fun hHeld => ?_)
  clear hK K
  try simp only [Act.put, List.setIfInBounds_toArray, List.set_cons_zero, List.set_cons_succ]
  refine RegW.take (i := 10) (v := ?_) rfl (by kernel_rfl) (by kernel_rfl) (by kernel_rfl) (by kernel_rfl) (fun _ _ _ h => h) (Or.inl ⟨by kernel_rfl, ?_⟩) (by assumption) ?_
  rotate_left
  · intro w hSw
    go_split_ands
    go_simp
    try with_reducible rfl
  try simp only [Act.put, List.setIfInBounds_toArray]
  refine RegW.take (i := 11) (v := ?_) rfl (by kernel_rfl) (by kernel_rfl) (by kernel_rfl) (by kernel_rfl) (fun _ _ _ h => h) (Or.inl ⟨by kernel_rfl, ?_⟩) (by assumption) ?_
  rotate_left
  · intro w hSw
    go_split_ands
    go_simp
    try with_reducible rfl
  try simp only [Act.put]
  refine RegW.take (i := 12) (v := ?_) rfl (by kernel_rfl) (by kernel_rfl) (by kernel_rfl) (by kernel_rfl) (fun _ _ _ h => h) (Or.inl ⟨by kernel_rfl, ?_⟩) (by assumption) ?_
  rotate_left
  · intro w hSw
    go_split_ands
    go_simp
    try with_reducible rfl
  try simp only [Act.put]
  refine RegW.take (i := 13) (v := ?_) rfl (by kernel_rfl) (by kernel_rfl) (by kernel_rfl) (by kernel_rfl) (fun _ _ _ h => h) (Or.inl ⟨by kernel_rfl, ?_⟩) (by assumption) ?_
  rotate_left
  · intro w hSw
    go_split_ands
    go_simp
    try with_reducible rfl
  try simp only [Act.put]
  refine RegW.take (i := 14) (v := ?_) rfl (by kernel_rfl) (by kernel_rfl) (by kernel_rfl) (by kernel_rfl) (fun _ _ _ h => h) (Or.inl ⟨by kernel_rfl, ?_⟩) (by assumption) ?_
  rotate_left
  · intro w hSw
    go_split_ands
    go_simp
    try with_reducible rfl
  try simp only [Act.put]
  refine RegW.take (i := 15) (v := ?_) rfl (by kernel_rfl) (by kernel_rfl) (by kernel_rfl) (by kernel_rfl) (fun _ _ _ h => h) (Or.inl ⟨by kernel_rfl, ?_⟩) (by assumption) ?_
  rotate_left
  · intro w hSw
    go_split_ands
    go_simp
    try with_reducible rfl
  try simp only [Act.put]
  refine RegW.take (i := 16) (v := ?_) rfl (by kernel_rfl) (by kernel_rfl) (by kernel_rfl) (by kernel_rfl) (fun _ _ _ h => h) (Or.inl ⟨by kernel_rfl, ?_⟩) (by assumption) ?_
  rotate_left
  · intro w hSw
    go_split_ands
    go_simp
    try with_reducible rfl
  try simp only [Act.put]
  refine RegW.only (i := 17) rfl (by kernel_rfl) (fun K hK => ?_)
  go_simp
  go_at_call 18
  refine c5.calls ?_
  refine hK.out _ _ (bx7 hp) (fun hHeld => ?_)
  clear hK K
  try simp only [Act.put, List.setIfInBounds_toArray, List.set_cons_zero, List.set_cons_succ]
  refine RegW.take (i := 18) (v := ?_) rfl (by kernel_rfl) (by kernel_rfl) (by kernel_rfl) (by kernel_rfl) (fun _ _ _ h => h) (Or.inl ⟨by kernel_rfl, ?_⟩) (by assumption) ?_
  rotate_left
  · intro w hSw
    go_split_ands
    go_simp
    try with_reducible rfl
  try simp only [Act.put, List.setIfInBounds_toArray]
  refine RegW.take (i := 19) (v := ?_) rfl (by kernel_rfl) (by kernel_rfl) (by kernel_rfl) (by kernel_rfl) (fun _ _ _ h => h) (Or.inl ⟨by kernel_rfl, ?_⟩) (by assumption) ?_
  rotate_left
  · intro w hSw
    go_split_ands
    go_simp
    try with_reducible rfl
  try simp only [Act.put]
  refine RegW.take (i := 20) (v := ?_) rfl (by kernel_rfl) (by kernel_rfl) (by kernel_rfl) (by kernel_rfl) (fun _ _ _ h => h) (Or.inl ⟨by kernel_rfl, ?_⟩) (by assumption) ?_
  rotate_left
  · intro w hSw
    go_split_ands
    go_simp
    try with_reducible rfl
  try simp only [Act.put]
  refine RegW.take (i := 21) (v := ?_) rfl (by kernel_rfl) (by kernel_rfl) (by kernel_rfl) (by kernel_rfl) (fun _ _ _ h => h) (Or.inl ⟨by kernel_rfl, ?_⟩) (by assumption) ?_
  rotate_left
  · intro w hSw
    go_split_ands
    go_simp
    try with_reducible rfl
  try simp only [Act.put]
  refine RegW.take (i := 22) (v := ?_) rfl (by kernel_rfl) (by kernel_rfl) (by kernel_rfl) (by kernel_rfl) (fun _ _ _ h => h) (Or.inl ⟨by kernel_rfl, ?_⟩) (by assumption) ?_
  rotate_left
  · intro w hSw
    go_split_ands
    go_simp
    try with_reducible rfl
  try simp only [Act.put]
  refine RegW.take (i := 23) (v := ?_) rfl (by kernel_rfl) (by kernel_rfl) (by kernel_rfl) (by kernel_rfl) (fun _ _ _ h => h) (Or.inl ⟨by kernel_rfl, ?_⟩) (by assumption) ?_
  rotate_left
  · intro w hSw
    go_split_ands
    go_simp
    try with_reducible rfl
  try simp only [Act.put]
  refine RegW.take (i := 24) (v := ?_) rfl (by kernel_rfl) (by kernel_rfl) (by kernel_rfl) (by kernel_rfl) (fun _ _ _ h => h) (Or.inl ⟨by kernel_rfl, ?_⟩) (by assumption) ?_
  rotate_left
  · intro w hSw
    go_split_ands
    go_simp
    try with_reducible rfl
  try simp only [Act.put]
  refine RegW.take (i := 25) (v := ?_) rfl (by kernel_rfl) (by kernel_rfl) (by kernel_rfl) (by kernel_rfl) (fun _ _ _ h => h) (Or.inl ⟨by kernel_rfl, ?_⟩) (by assumption) ?_
  rotate_left
  · intro w hSw
    go_split_ands
    go_simp
    try with_reducible rfl
  try simp only [Act.put]
  refine RegW.take (i := 26) (v := ?_) rfl (by kernel_rfl) (by kernel_rfl) (by kernel_rfl) (by kernel_rfl) (fun _ _ _ h => h) (Or.inl ⟨by kernel_rfl, ?_⟩) (by assumption) ?_
  rotate_left
  · intro w hSw
    go_split_ands
    go_simp
    try with_reducible rfl
  try simp only [Act.put]
  refine RegW.take (i := 27) (v := ?_) rfl (by kernel_rfl) (by kernel_rfl) (by kernel_rfl) (by kernel_rfl) (fun _ _ _ h => h) (Or.inl ⟨by kernel_rfl, ?_⟩) (by assumption) ?_
  rotate_left
  · intro w hSw
    go_split_ands
    go_simp
    try with_reducible rfl
  try simp only [Act.put]
  refine RegW.take (i := 28) (v := ?_) rfl (by kernel_rfl) (by kernel_rfl) (by kernel_rfl) (by kernel_rfl) (fun _ _ _ h => h) (Or.inl ⟨by kernel_rfl, ?_⟩) (by assumption) ?_
  rotate_left
  · intro w hSw
    go_split_ands
    go_simp
    try with_reducible rfl
  try simp only [Act.put]
  refine RegW.take (i := 29) (v := ?_) rfl (by kernel_rfl) (by kernel_rfl) (by kernel_rfl) (by kernel_rfl) (fun _ _ _ h => h) (Or.inl ⟨by kernel_rfl, ?_⟩) (by assumption) ?_
  rotate_left
  · intro w hSw
    go_split_ands
    go_simp
    try with_reducible rfl
  try simp only [Act.put]
  refine RegW.take (i := 30) (v := ?_) rfl (by kernel_rfl) (by kernel_rfl) (by kernel_rfl) (by kernel_rfl) (fun _ _ _ h => h) (Or.inl ⟨by kernel_rfl, ?_⟩) (by assumption) ?_
  rotate_left
  · intro w hSw
    go_split_ands
    go_simp
    try with_reducible rfl
  try simp only [Act.put]
  refine RegW.take (i := 31) (v := ?_) rfl (by kernel_rfl) (by kernel_rfl) (by kernel_rfl) (by kernel_rfl) (fun _ _ _ h => h) (Or.inl ⟨by kernel_rfl, ?_⟩) (by assumption) ?_
  rotate_left
  · intro w hSw
    go_split_ands
    go_simp
    try with_reducible rfl
  try simp only [Act.put]
  refine RegW.take (i := 32) (v := ?_) rfl (by kernel_rfl) (by kernel_rfl) (by kernel_rfl) (by kernel_rfl) (fun _ _ _ h => h) (Or.inl ⟨by kernel_rfl, ?_⟩) (by assumption) ?_
  rotate_left
  · intro w hSw
    go_split_ands
    go_simp
    try with_reducible rfl
  try simp only [Act.put]
  refine RegW.take (i := 33) (v := ?_) rfl (by kernel_rfl) (by kernel_rfl) (by kernel_rfl) (by kernel_rfl) (fun _ _ _ h => h) (Or.inl ⟨by kernel_rfl, ?_⟩) (by assumption) ?_
  rotate_left
  · intro w hSw
    go_split_ands
    go_simp
    try with_reducible rfl
  try simp only [Act.put]
  refine RegW.take (i := 34) (v := ?_) rfl (by kernel_rfl) (by kernel_rfl) (by kernel_rfl) (by kernel_rfl) (fun _ _ _ h => h) (Or.inl ⟨by kernel_rfl, ?_⟩) (by assumption) ?_
  rotate_left
  · intro w hSw
    go_split_ands
    go_simp
    try with_reducible rfl
  try simp only [Act.put]
  refine RegW.last rfl (by kernel_rfl) (by kernel_rfl) ?_
  clear hHeld
  go_wp2_with fail
  refine c9.calls0 hp.out.hb.tabs ?_
  intro w9 h9
  replace hp := bxstep h9 hp
  clear h9
  go_wp2_with fail
  go_ret
  exact ⟨rfl, hp.out.hb.since⟩

end Go.Proofs.YtddlaafpianjbaaGreatDoor.blockBack
