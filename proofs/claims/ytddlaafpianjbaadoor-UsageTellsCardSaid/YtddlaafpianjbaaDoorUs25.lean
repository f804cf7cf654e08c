/- Joined texts. -/
-- PACK: YtddlaafpianjbaaDoorUsage11
import Derived.Test.YtddlaafpianjbaaDoorUs24
import Derived.Test.YtddlaafpianjbaaDoorUs13

/- usage.May, for what Of answers; slices.Contains of strings. -/
namespace Go.Proofs.YtddlaafpianjbaaDoor
open Go.RowKit
namespace Us
open Att
def RdC (s : ByteArray) (l : List ByteArray) (q : Bool) : Prop := ∀ w x, StrsS w x l → Calls Tryd.prog 18 #[x, .string s] w fun e w' => e = .returned (.bool q) ∧ w' = w
set_option maxRecDepth 100000 in
theorem RdC.calls {s : ByteArray} {l : List ByteArray} {q : Bool} (h : RdC s l q) {w : World} {x : Value} (hx : StrsS w x l) {R : Ending → World → Prop} (k : R (.returned (.bool q)) w) : Calls Tryd.prog 18 #[x, .string s] w R :=
  (h w x hx).mono fun _ _ ⟨he, hw⟩ => by subst he; subst hw; exact k
set_option maxRecDepth 100000 in
theorem con_rd (s : ByteArray) (l : List ByteArray) : RdC s l (memB s l) := by
  intro w x hx
  have hle := SlR.le hx
  by_cases h0 : l.length = 0
  · obtain rfl := List.length_eq_zero_iff.1 h0
    obtain ⟨A, c, rfl, _⟩ := SlR.empty hx rfl
    exact Tryd.slices_Contains_string_empty A c s w
  · obtain ⟨b, o, c, rfl, _, _, _, h4⟩ := StrsS.form hx (by omega)
    have h := Tryd.slices_Contains_string b o l.length c l s w (Nat.le_refl _) hle (fun j hj => by rw [h4 j hj]; rfl)
    rw [List.take_length] at h
    have e : Lib.containsS l s = memB s l := by
      rw [Bool.eq_iff_iff, Lib.containsS_iff]
      constructor
      · exact memB_T
      · intro h9
        by_cases h8 : s ∈ l
        · exact h8
        · rw [memB_F h8] at h9; cases h9
    rw [e] at h
    exact h
theorem ops_mk : MkS 10 #[] ops := new_mk ops_new
/-- reads a record, with tables -/
def RdK (Kt : World → Prop) (f : Nat) (L : List A2) (args : Value → Array Value) (v : Value) : Prop := ∀ w x, Kt w → AttsS w x L → Calls Tryd.prog f (args x) w fun e w' => e = .returned v ∧ Since w w'
set_option maxRecDepth 100000 in
theorem RdK.calls0 {Kt : World → Prop} {f : Nat} {L : List A2} {args : Value → Array Value} {v x : Value} (h : RdK Kt f L args v) {w : World} (hT : Kt w) (hx : AttsS w x L) {R : Ending → World → Prop} (k : ∀ w', Since w w' → R (.returned v) w') : Calls Tryd.prog f (args x) w R :=
  (h w x hT hx).mono fun _ _ ⟨he, hb⟩ => by subst he; exact k _ hb
section
variable (K : Int) (k u m v e : ByteArray) (L : List A2)
set_option maxRecDepth 100000 in
theorem may_1 (op : ByteArray) (c2 : RdC op ops false) : RdK Table.Tabs 12 L (fun x => #[rv K k u m v e x, .string op]) (.int .i64 1) := by
  intro w x hT hx
  obtain ⟨A, q, rfl, hq1, hq2⟩ := hx.slice
  have hp := Lib.hid (ux_new (K := K) (k := k) (u := u) (m := m) (v := v) (e := e) hx)
  have HT := Lib.hid hT
  obtain ⟨_, m0, m1, m2, m3, m4, m5, m6⟩ := ux7 hp
  clear hx hT
  go_enter Tryd.func12, Tryd.ntmps12
  go_wp2_with fail
  clear m0 m1 m2 m3 m4 m5 m6
  refine (ops_mk _).mono ?_
  rintro r w1 ⟨V, rfl, hv, h5⟩
  replace hp := uxstep h5 hp
  have ho := Lib.hid hv
  clear h5 hv
  go_wp2_with fail
  refine RdC.calls c2 ho.out ?_
  clear ho
  obtain ⟨_, m0, m1, m2, m3, m4, m5, m6⟩ := ux7 hp
  go_wp2_with fail
  clear m0 m1 m2 m3 m4 m5 m6
  go_ret
  exact ⟨rfl, hp.out.hb.since⟩
set_option maxRecDepth 100000 in
theorem may_b (op : ByteArray) (c0 : RdA 27 L (fun x => #[rv K k u m v e x]) (.bool true)) (c2 : RdC op ops true) : RdK Table.Tabs 12 L (fun x => #[rv K k u m v e x, .string op]) (.int .i64 0) := by
  intro w x hT hx
  obtain ⟨A, q, rfl, hq1, hq2⟩ := hx.slice
  have hp := Lib.hid (ux_new (K := K) (k := k) (u := u) (m := m) (v := v) (e := e) hx)
  have HT := Lib.hid hT
  obtain ⟨_, m0, m1, m2, m3, m4, m5, m6⟩ := ux7 hp
  clear hx hT
  go_enter Tryd.func12, Tryd.ntmps12
  go_wp2_with fail
  clear m0 m1 m2 m3 m4 m5 m6
  refine (ops_mk _).mono ?_
  rintro r w1 ⟨V, rfl, hv, h5⟩
  replace hp := uxstep h5 hp
  have ho := Lib.hid hv
  clear h5 hv
  go_wp2_with fail
  refine RdC.calls c2 ho.out ?_
  clear ho
  obtain ⟨_, m0, m1, m2, m3, m4, m5, m6⟩ := ux7 hp
  go_wp2_with fail
  clear m0 m1 m2 m3 m4 m5 m6
  refine (c0.calls0 hp.out.atts) ?_
  intro w1 h1
  replace hp := uxstep (by first | exact h1 | exact (Since.alloc (Since.refl _) _).step h1) hp
  clear h1
  obtain ⟨_, m0, m1, m2, m3, m4, m5, m6⟩ := ux7 hp
  go_wp2_with fail
  clear m0 m1 m2 m3 m4 m5 m6
  go_ret
  exact ⟨rfl, hp.out.hb.since⟩
set_option maxRecDepth 100000 in
set_option maxHeartbeats 2000000 in
theorem may_o (op : ByteArray) (c0 : RdA 27 L (fun x => #[rv K k u m v e x]) (.bool false)) (c2 : RdC op ops true) (ss : List ByteArray) (c3 : Us.MkOf 8 Table.Tabs u m v e ss) (B : Bool) (c4 : RdC op ss B) (E : Int) (hE : E = if B then 0 else 14) : RdK Table.Tabs 12 L (fun x => #[rv K k u m v e x, .string op]) (.int .i64 E) := by
  subst hE
  intro w x hT hx
  obtain ⟨A, q, rfl, hq1, hq2⟩ := hx.slice
  have hp := Lib.hid (ux_new (K := K) (k := k) (u := u) (m := m) (v := v) (e := e) hx)
  have HT := Lib.hid hT
  obtain ⟨_, m0, m1, m2, m3, m4, m5, m6⟩ := ux7 hp
  clear hx hT
  go_enter Tryd.func12, Tryd.ntmps12
  go_wp2_with fail
  clear m0 m1 m2 m3 m4 m5 m6
  refine (ops_mk _).mono ?_
  rintro r w1 ⟨V, rfl, hv, h5⟩
  replace hp := uxstep h5 hp
  have ho := Lib.hid hv
  clear h5 hv
  go_wp2_with fail
  refine RdC.calls c2 ho.out ?_
  clear ho
  obtain ⟨_, m0, m1, m2, m3, m4, m5, m6⟩ := ux7 hp
  go_wp2_with fail
  clear m0 m1 m2 m3 m4 m5 m6
  refine (c0.calls0 hp.out.atts) ?_
  intro w1 h1
  replace hp := uxstep (by first | exact h1 | exact (Since.alloc (Since.refl _) _).step h1) hp
  clear h1
  obtain ⟨_, m0, m1, m2, m3, m4, m5, m6⟩ := ux7 hp
  go_wp2_with fail
  clear m0 m1 m2 m3 m4 m5 m6
  refine (c3 _ (Kp.keep HT.out hp.out.hb.since)).mono ?_
  rintro r w2 ⟨V2, rfl, hv, h5⟩
  replace hp := uxstep h5 hp
  have ho := Lib.hid hv
  clear h5 hv
  go_wp2_with fail
  refine RdC.calls c4 ho.out ?_
  clear ho
  cases B
  · obtain ⟨_, m0, m1, m2, m3, m4, m5, m6⟩ := ux7 hp
    go_wp2_with fail
    clear m0 m1 m2 m3 m4 m5 m6
    go_ret
    exact ⟨rfl, hp.out.hb.since⟩
  · obtain ⟨_, m0, m1, m2, m3, m4, m5, m6⟩ := ux7 hp
    go_wp2_with fail
    clear m0 m1 m2 m3 m4 m5 m6
    go_ret
    exact ⟨rfl, hp.out.hb.since⟩
theorem may_rd (op : ByteArray) (c3 : Us.MkOf 8 Table.Tabs u m v e (ops.filter (mayB u m))) : RdK Table.Tabs 12 L (fun x => #[rv K k u m v e x, .string op]) (.int .i64 (mayE u m v e op)) := by
  have c2 := con_rd op ops
  have c0 := bare_rd K k u m v e L
  unfold mayE
  cases h1 : memB op ops with
  | false => rw [h1] at c2; rw [if_neg (by decide)]; exact may_1 K k u m v e L op c2
  | true =>
    rw [h1] at c2
    rw [if_pos rfl]
    cases hb : bareB u m v e with
    | true => rw [hb] at c0; rw [if_pos rfl]; exact may_b K k u m v e L op c0 c2
    | false => rw [hb] at c0; rw [if_neg (by decide)]; exact may_o K k u m v e L op c0 c2 _ c3 _ (con_rd op _) _ rfl
end
end Us
end Go.Proofs.YtddlaafpianjbaaDoor
