/- Joined texts. -/
-- PACK: YtgfdomdbjiflmaaDoorKcv
import Derived.Test.YtgfdomdbjiflmaaDoorDj18
import Derived.Test.YtgfdomdbjiflmaaDoorDj8
import Derived.Test.YtgfdomdbjiflmaaDoorDj40
import Derived.Test.YtgfdomdbjiflmaaDoorDj43
import Derived.Laws.CopyOwn
import Derived.Deep.OwnRows
import Derived.Test.YtgfdomdbjiflmaaDoorDj31
import Derived.Test.YtgfdomdbjiflmaaDoorDj25
import Derived.Deep.RegionHeld3

/- Package kcv, and its reference: parts of a key. -/
namespace Go.Proofs.YtgfdomdbjiflmaaDoor
open Go.RowKit
namespace Kcv
def sumB (s : ByteArray) (l : List ByteArray) : ByteArray := l.foldl Sched.xorS s
def asB (n : Nat) (s : ByteArray) : Bool := decide (s.size = n)
theorem take_snoc {α : Type} (l : List α) (k : Nat) (p : α) (h : l[k]? = some p) : l.take (k + 1) = l.take k ++ [p] := by
  obtain ⟨g1, g2⟩ := List.getElem?_eq_some_iff.1 h
  rw [List.take_succ_eq_append_getElem g1, g2]
theorem sum_snoc (s : ByteArray) (l : List ByteArray) (k : Nat) (p : ByteArray) (h : l[k]? = some p) : sumB s (l.take (k + 1)) = Sched.xorS (sumB s (l.take k)) p := by
  rw [take_snoc l k p h, sumB, List.foldl_append]; rfl
theorem sum_size : ∀ (l : List ByteArray) (s : ByteArray), (sumB s l).size ≤ s.size
  | [], _ => Nat.le_refl _
  | a :: l, s => by
    have h := sum_size l (Sched.xorS s a)
    rw [Sched.xorS_size] at h
    show (sumB (Sched.xorS s a) l).size ≤ _
    omega
/-- calls that read a slice of strings -/
def RdQ (f : Nat) (l : List ByteArray) (args : Value → Array Value) (v : Value) : Prop := ∀ w x, StrsS w x l → Calls Tryd.prog f (args x) w fun e w' => e = .returned v ∧ Below w.heap.size w w'
set_option maxRecDepth 100000 in
theorem RdQ.calls0 {f : Nat} {l : List ByteArray} {args : Value → Array Value} {v x : Value} (h : RdQ f l args v) {w : World} (hx : StrsS w x l) {R : Ending → World → Prop} (k : ∀ w', Since w w' → R (.returned v) w') : Calls Tryd.prog f (args x) w R :=
  (h w x hx).mono fun _ _ ⟨he, hb⟩ => by subst he; exact k _ hb
theorem cells_at {w : World} {v : Value} {l : List ByteArray} (h : StrsS w v l) (hn : 0 < l.length) :
    ∃ b o c, v = .slice (some ⟨b, o, none⟩) l.length c ∧ l.length ≤ c ∧ c ≤ maxLen ∧ b < w.heap.size ∧ ∀ i s, l[i]? = some s → w.cell? ⟨b, o + i, none⟩ = some (.string s) := by
  obtain ⟨b, o, c, hv, h1, h2, h3, h4⟩ := SlR.form h hn
  exact ⟨b, o, c, hv, h1, h2, h3, fun i s hs => h4 i _ (by rw [List.getElem?_map, hs]; rfl)⟩
set_option maxRecDepth 100000 in
theorem as_nil (s : ByteArray) : RdQ 53 [] (fun x => #[.string s, x]) (.bool true) := by
  intro w x hx
  obtain ⟨A, c, rfl, _⟩ := SlR.empty hx rfl
  clear hx
  go_enter Tryd.func53, Tryd.ntmps53
  go_wp2_with fail
  go_loop [9] (fun i => i = .int .i64 0) (fun i => 0 - (intOf i).toNat)
  case atStart => rfl
  case round =>
    subst hrel
    go_wp2_with fail
    go_ret
    exact ⟨rfl, Below.refl _ _⟩
set_option maxRecDepth 100000 in
set_option maxHeartbeats 2000000 in
theorem as_rd (s : ByteArray) (l : List ByteArray) (q : Bool) (hq : q = l.all (asB s.size)) : RdQ 53 l (fun x => #[.string s, x]) (.bool q) := by
  by_cases h0 : l.length = 0
  · obtain rfl := List.length_eq_zero_iff.1 h0
    have : q = true := by rw [hq]; rfl
    subst this
    exact as_nil s
  intro w x hx
  have hle := SlR.le hx
  obtain ⟨b, o, c, rfl, h1, h2, h3, h4⟩ := cells_at hx (by omega)
  obtain ⟨k0, hk0⟩ : ∃ k, k = l.length := ⟨_, rfl⟩
  rw [← hk0] at h1 h0 hle ⊢
  have HC := Lib.hid h4
  have HN := Lib.hid hk0
  have HQ := Lib.hid hq
  clear h4 hx hk0 hq
  go_enter Tryd.func53, Tryd.ntmps53
  go_wp2_with fail
  go_loop [9] (fun i => ∃ k : Nat, k ≤ k0 ∧ i = .int .i64 (k : Int) ∧ Hid ((l.take k).all (asB s.size) = true)) (fun i => k0 - (intOf i).toNat)
  case atStart => exact ⟨0, by omega, rfl, Lib.hid rfl⟩
  case round =>
    obtain ⟨k, hk, rfl, HA⟩ := hrel
    by_cases hlt : k < k0
    · obtain ⟨p, hp⟩ : ∃ p, l[k]? = some p := ⟨l[k]'(by rw [← HN.out]; exact hlt), List.getElem?_eq_getElem _⟩
      have m0 := HC.out k p hp
      have i1 : (0 : Int) ≤ (k : Int) := by omega
      have i2 : (k : Int) < (k0 : Int) := by omega
      have HA2 : Hid ((l.take (k + 1)).all (asB s.size) = asB s.size p) := Lib.hid (by rw [take_snoc l k p hp, List.all_append, HA.out]; simp)
      have HM := Lib.hid (List.mem_of_getElem? hp)
      clear hp
      by_cases hz : p.size = s.size
      · have t2 : ((p.size : Int) != (s.size : Int)) = false := by rw [bne_eq_false_iff_eq]; omega
        have t3 : (p.size != s.size) = false := by rw [bne_eq_false_iff_eq]; exact hz
        have HA3 : Hid ((l.take (k + 1)).all (asB s.size) = true) := Lib.hid (by rw [HA2.out]; exact decide_eq_true hz)
        clear HA2 hz
        go_wp2_with fail
        go_round
        case rel => exact ⟨k + 1, by omega, by go_num, HA3⟩
        case measure => simp [intOf]; omega
      · have t2 : ((p.size : Int) != (s.size : Int)) = true := by rw [bne_iff_ne]; omega
        have t3 : (p.size != s.size) = true := by rw [bne_iff_ne]; exact hz
        have hqf : q = false := by
          rw [HQ.out, List.all_eq_false]
          exact ⟨_, HM.out, by unfold asB; rw [decide_eq_false hz]; decide⟩
        subst hqf
        clear hz
        go_wp2_with fail
        go_ret
        exact ⟨rfl, Below.refl _ _⟩
    · obtain rfl : k0 = k := by omega
      have hqt : q = true := by rw [HQ.out]; have h9 := HA.out; rw [HN.out, List.take_length] at h9; exact h9
      subst hqt
      go_wp2_with fail
      go_ret
      exact ⟨rfl, Below.refl _ _⟩
set_option maxRecDepth 100000 in
theorem sum_nil (s : ByteArray) : RdQ 54 [] (fun x => #[.string s, x]) (.string s) := by
  intro w x hx
  obtain ⟨A, c, rfl, _⟩ := SlR.empty hx rfl
  clear hx
  go_enter Tryd.func54, Tryd.ntmps54
  go_wp2_with fail
  go_loop [0, 9] (fun sv i => sv = .string s ∧ i = .int .i64 0) (fun _ i => 0 - (intOf i).toNat)
  case atStart => exact ⟨rfl, rfl⟩
  case round =>
    obtain ⟨rfl, rfl⟩ := hrel
    go_wp2_with fail
    go_ret
    exact ⟨rfl, Below.refl _ _⟩
set_option maxRecDepth 100000 in
set_option maxHeartbeats 2000000 in
theorem sum_rd (s : ByteArray) (hs : s.size ≤ 100000) (l : List ByteArray) (hl : ∀ p ∈ l, p.size ≤ 100000) (X : ByteArray) (hX : X = sumB s l) : RdQ 54 l (fun x => #[.string s, x]) (.string X) := by
  by_cases h0 : l.length = 0
  · obtain rfl := List.length_eq_zero_iff.1 h0
    have : X = s := hX
    subst this
    exact sum_nil X
  intro w x hx
  have hle := SlR.le hx
  obtain ⟨b, o, c, rfl, h1, h2, h3, h4⟩ := cells_at hx (by omega)
  obtain ⟨k0, hk0⟩ : ∃ k, k = l.length := ⟨_, rfl⟩
  rw [← hk0] at h1 h0 hle ⊢
  have HC := Lib.hid h4
  have HN := Lib.hid hk0
  have HX := Lib.hid hX
  have HL := Lib.hid hl
  have HS0 := Lib.hid (Since.refl w)
  have HSZ := Lib.hid (fun k => Nat.le_trans (sum_size (l.take k) s) hs)
  clear h4 hx hk0 hX hl
  go_enter Tryd.func54, Tryd.ntmps54
  go_wp2_with fail
  go_loopw [0, 9] (fun sv i wr => ∃ (k : Nat) (S : ByteArray), k ≤ k0 ∧ i = .int .i64 (k : Int) ∧ sv = .string S ∧ Hid (S = sumB s (l.take k)) ∧ Hid (Since w wr)) (fun _ i _ => k0 - (intOf i).toNat)
  case atStart => exact ⟨0, s, by omega, rfl, rfl, Lib.hid rfl, HS0⟩
  case round =>
    clear HS0
    obtain ⟨k, S, hk, rfl, rfl, HA, HS⟩ := hrel
    by_cases hlt : k < k0
    · obtain ⟨p, hp⟩ : ∃ p, l[k]? = some p := ⟨l[k]'(by rw [← HN.out]; exact hlt), List.getElem?_eq_getElem _⟩
      have m0 : wr.cell? ⟨b, o + k, none⟩ = some (.string p) := (Below.cell HS.out (p := ⟨b, o + k, none⟩) h3).trans (HC.out k p hp)
      have i1 : (0 : Int) ≤ (k : Int) := by omega
      have i2 : (k : Int) < (k0 : Int) := by omega
      have hps := HL.out p (List.mem_of_getElem? hp)
      have hSs : S.size ≤ 100000 := by rw [HA.out]; exact HSZ.out k
      obtain ⟨T, hT⟩ : ∃ T, T = Sched.xorS S p := ⟨_, rfl⟩
      have c1 := Sched.xor_m S p (by omega) (by omega) T hT
      have HA2 : Hid (T = sumB s (l.take (k + 1))) := Lib.hid (by rw [sum_snoc s l k p hp, hT, HA.out])
      clear hp hT hSs hps
      go_wp2_with fail
      refine (c1.calls0) ?_
      intro w2 h2
      replace HS := Lib.hid (HS.out.step (by first | exact h2 | exact (Since.alloc (Since.refl _) _).step h2 | exact (Since.alloc (Since.alloc (Since.refl _) _) _).step h2 | exact (Since.drew (Since.refl _)).step h2 | exact (Since.alloc (Since.alloc (Since.alloc (Since.refl _) _) _) _).step h2))
      clear h2
      go_wp2_with fail
      go_round
      case rel => exact ⟨k + 1, T, by omega, by go_num, rfl, HA2, HS⟩
      case measure => simp [intOf]; omega
    · obtain rfl : k0 = k := by omega
      have hqt : S = X := by rw [HX.out, HA.out]; conv => lhs; rw [HN.out, List.take_length]
      subst hqt
      go_wp2_with fail
      go_ret
      exact ⟨rfl, HS.out⟩
/-- what Split answers -/
def splE (s : ByteArray) (l : List ByteArray) : Int := if s.size = 0 then 3 else if 8 < l.length then 17 else if l.all (asB s.size) then 0 else 9
def SplP (w : World) (s : ByteArray) (l : List ByteArray) (x : Ending) (w' : World) : Prop := ∃ v, x = .returned (.tuple #[v, .int .i64 0]) ∧ w'.ownsRow w.heap.size 9 1 v (l.length + 1) ((l ++ [sumB s l]).map Value.string) ∧ Below w.heap.size w w'
set_option maxRecDepth 100000 in
theorem split_empty (l : List ByteArray) : RdQ 29 l (fun x => #[.string ⟨#[]⟩, x]) (.tuple #[.slice none 0 0, .int .i64 3]) := by
  intro w x hx
  clear hx
  go_enter Tryd.func29, Tryd.ntmps29
  go_wp2_with fail
  go_ret2
  exact ⟨rfl, Below.refl _ _⟩
set_option maxRecDepth 100000 in
theorem split_full (s : ByteArray) (hs : s.toList.isEmpty = false) (l : List ByteArray) (h : 8 < l.length) : RdQ 29 l (fun x => #[.string s, x]) (.tuple #[.slice none 0 0, .int .i64 17]) := by
  intro w x hx
  obtain ⟨A, c, rfl, h1, h2⟩ := SlR.slice hx
  have hle := SlR.le hx
  obtain ⟨n, hn⟩ : ∃ n, n = l.length := ⟨_, rfl⟩
  rw [← hn] at h h1 hle ⊢
  have t1 : decide ((8 : Int) < (n : Int)) = true := decide_eq_true (by omega)
  clear hx hn h
  go_enter Tryd.func29, Tryd.ntmps29
  go_wp2_with fail
  go_ret2
  exact ⟨rfl, Below.refl _ _⟩
set_option maxRecDepth 100000 in
theorem split_len (s : ByteArray) (hs : s.toList.isEmpty = false) (l : List ByteArray) (h : l.length ≤ 8) (ha : l.all (asB s.size) = false) : RdQ 29 l (fun x => #[.string s, x]) (.tuple #[.slice none 0 0, .int .i64 9]) := by
  intro w x hx
  have c1 := as_rd s l _ rfl
  rw [ha] at c1
  have HX := Lib.hid hx
  have HS := Lib.hid (Since.refl w)
  obtain ⟨A, c, rfl, h1, h2⟩ := SlR.slice hx
  obtain ⟨n, hn⟩ : ∃ n, n = l.length := ⟨_, rfl⟩
  rw [← hn] at h h1 HX ⊢
  have t1 : decide ((8 : Int) < (n : Int)) = false := decide_eq_false (by omega)
  clear hx hn ha
  go_enter Tryd.func29, Tryd.ntmps29
  go_wp2_with fail
  refine (c1.calls0 HX.out) ?_
  intro w1 h1
  replace HS := Lib.hid (HS.out.step (by first | exact h1 | exact (Since.alloc (Since.refl _) _).step h1 | exact (Since.alloc (Since.alloc (Since.refl _) _) _).step h1 | exact (Since.drew (Since.refl _)).step h1 | exact (Since.alloc (Since.alloc (Since.alloc (Since.refl _) _) _) _).step h1))
  clear h1
  go_wp2_with fail
  go_ret2
  exact ⟨rfl, HS.out⟩
set_option maxRecDepth 100000 in
theorem sinfo : (Tryd.prog.info? 9).map (fun i => (i.zero, i.size, i.bytes)) = some (some (.string ⟨#[]⟩), 1, 16) := by kernel_rfl
theorem made_list (n : Nat) (z : Value) : (madeCells #[z] n).toList = List.replicate n z := by
  have h : (fun x => #[z][x % #[z].size]!) = fun _ => z := by funext x; simp [Nat.mod_one]
  unfold madeCells
  rw [h]
  apply List.ext_getElem?
  intro i
  simp [List.getElem?_replicate]
  split <;> simp_all
set_option maxRecDepth 100000 in
set_option maxHeartbeats 4000000 in
theorem split_ok (s : ByteArray) (hs : s.toList.isEmpty = false) (hz : s.size ≤ 100000) (l : List ByteArray) (h : l.length ≤ 8) (ha : l.all (asB s.size) = true) : ∀ w x, StrsS w x l → Calls Tryd.prog 29 #[.string s, x] w (SplP w s l) := by
  intro w x hx
  have c1 := as_rd s l _ rfl
  rw [ha] at c1
  obtain ⟨X, hX⟩ : ∃ X, X = sumB s l := ⟨_, rfl⟩
  have c2 := sum_rd s hz l (fun p hp => by
    have h2 := List.all_eq_true.1 ha p hp
    unfold asB at h2
    have := of_decide_eq_true h2
    omega) X hX
  have HX := Lib.hid hx
  have HX0 := Lib.hid hx
  have HS := Lib.hid (Since.refl w)
  obtain ⟨A, c, rfl, h1, h2⟩ := SlR.slice hx
  unfold SplP
  rw [← hX]
  obtain ⟨n, hn⟩ : ∃ n, n = l.length := ⟨_, rfl⟩
  rw [← hn] at h h1 HX HX0 ⊢
  have t1 : decide ((8 : Int) < (n : Int)) = false := decide_eq_false (by omega)
  have hmk : ∀ w : World, (Instr.makeSlice 30 (.int .i64 ((n : Int) + 1)) (.int .i64 ((n : Int) + 1))).run Tryd.prog w = .ok (.slice (some ⟨w.heap.size, 0, none⟩) (n + 1) (n + 1)) (w.alloc (.cells (madeCells #[.string ⟨#[]⟩] (n + 1)) 9)) := fun w => by
    have h9 := run_make_row' (P := Tryd.prog) 30 9 (.string ⟨#[]⟩) 16 Tryd.underlying30 sinfo rfl .i64 .i64 (n + 1) (by omega) (by omega) w
    rw [Int.natCast_succ] at h9
    exact h9
  have HN := Lib.hid hn
  clear hx ha hX hn
  go_enter Tryd.func29, Tryd.ntmps29
  go_wp2_with fail
  refine (c1.calls0 HX.out) ?_
  intro w1 h1
  replace HX := Lib.hid (HX.out.since (by first | exact h1 | exact (Since.alloc (Since.refl _) _).step h1 | exact (Since.alloc (Since.alloc (Since.refl _) _) _).step h1 | exact (Since.drew (Since.refl _)).step h1 | exact (Since.alloc (Since.alloc (Since.alloc (Since.refl _) _) _) _).step h1))
  replace HS := Lib.hid (HS.out.step (by first | exact h1 | exact (Since.alloc (Since.refl _) _).step h1 | exact (Since.alloc (Since.alloc (Since.refl _) _) _).step h1 | exact (Since.drew (Since.refl _)).step h1 | exact (Since.alloc (Since.alloc (Since.alloc (Since.refl _) _) _) _).step h1))
  clear h1
  have hw1 : w.heap.size ≤ w1.heap.size := Below.size HS.out
  have hb0 := Lib.hid (heap_alloc_new w1 (.cells (madeCells #[.string ⟨#[]⟩] (n + 1)) 9))
  have hlen : (madeCells #[Value.string ⟨#[]⟩] (n + 1)).toList.length = n + 1 := by rw [made_list]; simp
  have HS2 := Lib.hid (HS.out.alloc (.cells (madeCells #[.string ⟨#[]⟩] (n + 1)) 9))
  have HX2 := Lib.hid (HX.out.since ((Since.refl w1).alloc (.cells (madeCells #[.string ⟨#[]⟩] (n + 1)) 9)))
  have hcs : (l.map Value.string).length = n := by rw [List.length_map, ← HN.out]
  go_wp2_with (refine wpList_copy_splice rfl _ _ 30 30 rfl 9 Tryd.underlying30 (by kernel_rfl) _ _ (n + 1) (n + 1) n c (by rfl) (by rfl) w1.heap.size 0 (madeCells #[Value.string ⟨#[]⟩] (n + 1)).toList 9 (by simpa using hb0.out) (l.map Value.string) (by rw [hcs]; exact (Nat.min_eq_left (Nat.le_succ n)).symm) ?_ (by rw [hlen, hcs]; omega) (fun v hv => by obtain ⟨s, _, rfl⟩ := List.mem_map.1 hv; rfl) w.heap.size w HS2.out (Below.size HS.out) ?_)
  · intro h0
    obtain ⟨b, o, c', hv, _, _, hlt, hcell⟩ := cells_at HX2.out (by have := HN.out; omega)
    cases hv
    refine ⟨_, rfl, fun j u hu => ?_⟩
    have hadd : (⟨b, o, none⟩ : Addr).add j = ⟨b, o + j, none⟩ := by unfold Addr.add; split <;> simp_all
    rw [hadd]
    exact hcell j u hu
  intro w2 hg2 hb2
  have HR2 : Hid (HR w w1.heap.size (splice (madeCells #[Value.string ⟨#[]⟩] (n + 1)).toList 0 (l.map Value.string)).toArray 9 w2) := Lib.hid ⟨hg2.out⟩
  have HS3 : Hid (Since w w2) := Lib.hid hb2
  have hsp : splice (madeCells #[Value.string ⟨#[]⟩] (n + 1)).toList 0 (l.map Value.string) = l.map Value.string ++ [Value.string ⟨#[]⟩] := by
    unfold splice
    rw [hcs, made_list, List.take_zero, List.nil_append, Nat.zero_add, List.drop_replicate, Nat.add_sub_cancel_left]
    rfl
  rw [hsp] at HR2
  clear hg2 hb2 hb0 HS HS2
  go_wp2_with fail
  refine c2.calls0 (HX0.out.since HS3.out) ?_
  intro w3 h3
  replace HR2 := Lib.hid (HR2.out.step h3)
  replace HS3 := Lib.hid (HS3.out.step h3)
  have hsz0 : (l.map Value.string ++ [Value.string ⟨#[]⟩]).length = n + 1 := by rw [List.length_append, hcs]; rfl
  have m9 : w3.cell? ⟨w1.heap.size, n, none⟩ = some (.string ⟨#[]⟩) := by
    unfold World.cell?
    rw [HR2.out.row]
    show (l.map Value.string ++ [Value.string ⟨#[]⟩]).toArray[n]? = _
    rw [List.getElem?_toArray, List.getElem?_append_right (by omega), hcs, Nat.sub_self]; rfl
  have f9 : w3.frozen? ⟨w1.heap.size, n, none⟩ = false := by
    unfold World.frozen?
    rw [HR2.out.row]
    simp
  have own3 : w3.ownsRow w.heap.size 9 1 (.slice (some ⟨w1.heap.size, 0, none⟩) (n + 1) (n + 1)) (n + 1) (l.map Value.string ++ [Value.string ⟨#[]⟩]) :=
    ⟨by rw [hsz0, Nat.mul_one], .inr ⟨w1.heap.size, n + 1, _, rfl, hw1, HR2.out.row, Nat.le_refl _, by unfold maxLen; omega, by rw [List.size_toArray, hsz0, Nat.mul_one], by rw [Nat.mul_one]; exact List.take_of_length_le (by rw [hsz0]; exact Nat.le_refl _)⟩⟩
  have own4 := Rw.own_set own3 n (by omega) (.string X)
  have hls : (l.map Value.string ++ [Value.string ⟨#[]⟩]).set n (.string X) = (l ++ [X]).map Value.string := by
    rw [List.set_append_right _ _ (by omega), hcs, Nat.sub_self, List.map_append]; rfl
  rw [hls] at own4
  have HO := Lib.hid own4
  have HS5 := Lib.hid (Below.setCell (p := ⟨w1.heap.size, n, none⟩) HS3.out hw1 (.string X))
  have i1 : (n : Int) < (n : Int) + 1 := by omega
  have i2 : (0 : Int) ≤ (n : Int) := by omega
  clear own3 own4 HR2 HS3 hls hsz0 h3
  go_wp2_with fail
  go_ret2
  exact ⟨_, rfl, HO.out, HS5.out⟩
/-- what Combine answers -/
structure QQ (w : World) (b o : Nat) (p : ByteArray) (W : World) : Prop where
  since : Since w W
  cell : W.cell? ⟨b, o, none⟩ = some (.string p)
  lb : b < W.heap.size
theorem qqS {w : World} {b o : Nat} {p : ByteArray} {W W' : World} (hb : Below W.heap.size W W') (h : Hid (QQ w b o p W)) : Hid (QQ w b o p W') := Lib.hid ⟨h.out.since.step hb, (hb.cell (p := ⟨b, o, none⟩) h.out.lb).trans h.out.cell, Nat.lt_of_lt_of_le h.out.lb hb.size⟩
theorem qqD {w : World} {b o : Nat} {p : ByteArray} {W : World} (h : Hid (QQ w b o p W)) : Hid (QQ w b o p W.drew) := qqS (Below.drew (Below.refl _ _)) h
theorem qqR {w : World} {b o : Nat} {p : ByteArray} {W : World} {X : Prop} (hx : X) (h : Hid (QQ w b o p W)) : Hid (QQ w b o p W) ∧ W.cell? ⟨b, o, none⟩ = some (.string p) ∧ X := ⟨h, h.out.cell, hx⟩
set_option maxRecDepth 100000 in
theorem comb_arg (l : List ByteArray) (h : l.length < 1 ∨ 9 < l.length) : RdQ 31 l (fun x => #[x]) (.tuple #[.string ⟨#[]⟩, .int .i64 1]) := by
  intro w x hx
  obtain ⟨A, c, rfl, h1, h2⟩ := SlR.slice hx
  have hle := SlR.le hx
  obtain ⟨n, hn⟩ : ∃ n, n = l.length := ⟨_, rfl⟩
  rw [← hn] at h h1 hle ⊢
  clear hx hn
  by_cases h0 : n < 1
  · have t1 : decide ((n : Int) < 1) = true := decide_eq_true (by omega)
    clear h h0
    go_enter Tryd.func31, Tryd.ntmps31
    go_wp2_with fail
    go_ret2
    exact ⟨rfl, Below.refl _ _⟩
  · have t1 : decide ((n : Int) < 1) = false := decide_eq_false (by omega)
    have t2 : decide ((9 : Int) < (n : Int)) = true := decide_eq_true (by omega)
    clear h h0
    go_enter Tryd.func31, Tryd.ntmps31
    go_wp2_with fail
    go_ret2
    exact ⟨rfl, Below.refl _ _⟩
set_option maxRecDepth 100000 in
theorem comb_empty (l r : List ByteArray) (m : Nat) (p : ByteArray) (hl : l = p :: r) (hm : r.length = m) (h8 : m ≤ 8) (hp : p = ⟨#[]⟩) : RdQ 31 l (fun x => #[x]) (.tuple #[.string ⟨#[]⟩, .int .i64 3]) := by
  subst hm
  obtain ⟨m, hm⟩ : ∃ m, m = r.length := ⟨_, rfl⟩
  rw [← hm] at h8
  have hl' : l.length = m + 1 := by rw [hl, hm]; rfl
  intro w x hx
  obtain ⟨b, o, c, rfl, h1, h2, h3, h4⟩ := cells_at hx (by omega)
  have m0 := h4 0 p (by rw [hl]; rfl)
  rw [Nat.add_zero] at m0
  rw [hl'] at h1 ⊢
  have t1 : decide (((m + 1 : Nat) : Int) < 1) = false := decide_eq_false (by omega)
  have t2 : decide ((9 : Int) < ((m + 1 : Nat) : Int)) = false := decide_eq_false (by omega)
  have i1 : (0 : Int) < ((m + 1 : Nat) : Int) := by omega
  have i2 : 0 < m + 1 := by omega
  generalize m + 1 = n at *
  subst hp
  clear h4 hx hm hl hl' h8
  go_enter Tryd.func31, Tryd.ntmps31
  go_wp2_with fail
  go_ret2
  exact ⟨rfl, Below.refl _ _⟩
set_option maxRecDepth 100000 in
set_option maxHeartbeats 2000000 in
theorem comb_len (l r : List ByteArray) (p : ByteArray) (hl : l = p :: r) (h8 : l.length ≤ 9) (h0 : 0 < l.length) (hs : p.toList.isEmpty = false) (ha : l.all (asB p.size) = false) : RdQ 31 l (fun x => #[x]) (.tuple #[.string ⟨#[]⟩, .int .i64 9]) := by
  have c1 := as_rd p l _ rfl
  rw [ha] at c1
  intro w x hx
  obtain ⟨b, o, c, rfl, h1, h2, h3, h4⟩ := cells_at hx (by omega)
  have m0 := h4 0 p (by rw [hl]; rfl)
  rw [Nat.add_zero] at m0
  have HX := Lib.hid hx
  have HS := Lib.hid (Since.refl w)
  have hz : ∃ k, l.length = k + 1 ∧ k ≤ 8 := ⟨r.length, by rw [hl]; rfl, by rw [hl] at h8; simp at h8; omega⟩
  obtain ⟨k, hk, hk8⟩ := hz
  obtain ⟨n, hn⟩ : ∃ n, n = l.length := ⟨_, rfl⟩
  rw [← hn] at h1 HX hk ⊢
  have t1 : decide ((n : Int) < 1) = false := decide_eq_false (by omega)
  have t2 : decide ((9 : Int) < (n : Int)) = false := decide_eq_false (by omega)
  have i1 : (0 : Int) < (n : Int) := by omega
  have i2 : 0 < n := by omega
  have i3 : (1 : Int) ≤ (n : Int) := by omega
  clear h4 hx
  clear ha hl hn h8 h0 hk
  go_enter Tryd.func31, Tryd.ntmps31
  go_wp2_with fail
  refine (c1.calls0 HX.out) ?_
  intro w1 h1
  replace HS := Lib.hid (HS.out.step (by first | exact h1 | exact (Since.alloc (Since.refl _) _).step h1 | exact (Since.alloc (Since.alloc (Since.refl _) _) _).step h1 | exact (Since.drew (Since.refl _)).step h1 | exact (Since.alloc (Since.alloc (Since.alloc (Since.refl _) _) _) _).step h1))
  clear h1
  go_wp2_with fail
  go_ret2
  exact ⟨rfl, HS.out⟩
set_option maxRecDepth 100000 in
set_option maxHeartbeats 4000000 in
theorem comb_ok (l r : List ByteArray) (p : ByteArray) (hl : l = p :: r) (h8 : l.length ≤ 9) (h0 : 0 < l.length) (hs : p.toList.isEmpty = false) (hz : p.size ≤ 100000) (ha : l.all (asB p.size) = true) (X : ByteArray) (hX : X = sumB p r) : RdQ 31 l (fun x => #[x]) (.tuple #[.string X, .int .i64 0]) := by
  have c1 := as_rd p l _ rfl
  rw [ha] at c1
  have c2 := sum_rd p hz r (fun y hy => by
    have h2 := List.all_eq_true.1 ha y (by rw [hl]; exact List.mem_cons_of_mem _ hy)
    unfold asB at h2
    have := of_decide_eq_true h2
    omega) X hX
  intro w x hx
  obtain ⟨b, o, c, rfl, h1, h2, h3, h4⟩ := cells_at hx (by omega)
  have m0 := h4 0 p (by rw [hl]; rfl)
  rw [Nat.add_zero] at m0
  have HX := Lib.hid hx
  have HS := Lib.hid (Since.refl w)
  have hz : ∃ k, l.length = k + 1 ∧ k ≤ 8 := ⟨r.length, by rw [hl]; rfl, by rw [hl] at h8; simp at h8; omega⟩
  obtain ⟨k, hk, hk8⟩ := hz
  obtain ⟨n, hn⟩ : ∃ n, n = l.length := ⟨_, rfl⟩
  rw [← hn] at h1 HX hk ⊢
  have t1 : decide ((n : Int) < 1) = false := decide_eq_false (by omega)
  have t2 : decide ((9 : Int) < (n : Int)) = false := decide_eq_false (by omega)
  have i1 : (0 : Int) < (n : Int) := by omega
  have i2 : 0 < n := by omega
  have i3 : (1 : Int) ≤ (n : Int) := by omega
  clear h4 hx
  have hrl : r.length = k := by have := hn; rw [hl] at this; simp at this; omega
  have HX1 : SlR w 1 (.slice (some ⟨b, o, none⟩) n c) n (l.map Value.string) := by have h9 := HX.out; unfold StrsS at h9; rw [← hn] at h9; exact h9
  obtain ⟨A', hA1, hA2⟩ := SlR.tail HX1 (t := 30) (e := 9) Tryd.underlying30 (by intro w; kernel_rfl) 1 k (c - 1) (by omega) (by omega)
  have HR : Hid (StrsS w (.slice A' k (c - 1)) r) := Lib.hid (by
    rw [hl] at hA1
    unfold StrsS
    rw [hrl]
    exact hA1)
  have HSL := Lib.hid hA2
  clear ha hX hl hn h8 h0 hk hrl HX1 hA1 hA2
  go_enter Tryd.func31, Tryd.ntmps31
  go_wp2_with fail
  refine (c1.calls0 HX.out) ?_
  intro w1 h1
  replace HS := Lib.hid (HS.out.step (by first | exact h1 | exact (Since.alloc (Since.refl _) _).step h1 | exact (Since.alloc (Since.alloc (Since.refl _) _) _).step h1 | exact (Since.drew (Since.refl _)).step h1 | exact (Since.alloc (Since.alloc (Since.alloc (Since.refl _) _) _) _).step h1))
  clear h1
  have hq : Hid (QQ w b o p w1) := Lib.hid ⟨HS.out, (Below.cell HS.out (p := ⟨b, o, none⟩) h3).trans m0, Nat.lt_of_lt_of_le h3 (Below.size HS.out)⟩
  replace m0 := hq.out.cell
  clear HS
  go_wp2_with fail
  go_region_held3 (fun W => Hid (QQ w b o p W) ∧ W.cell? ⟨b, o, none⟩ = some (.string p) ∧ (Instr.slice 30 (.slice (some ⟨b, o, none⟩) n c) (some (.int .i64 1)) none none).run Tryd.prog W = .ok (.slice A' k (c - 1)) W)
    (first | exact qqR (HSL.out _) (by assumption) | exact qqR (HSL.out _) (qqD (by assumption)))
    (first
      | (go_at_call 54; refine c2.calls0 (HR.out.since (by first | exact (Hid.out (by assumption) : QQ w b o p _).since | exact (Hid.out (qqD (by assumption)) : QQ w b o p _).since)) ?_; intro wy hby; have hpy := qqS hby (by first | assumption | exact qqD (by assumption)); clear hby))
  all_goals
    go_wp2_with fail
    go_ret2
    exact ⟨rfl, (Hid.out (by first | assumption | exact qqD (by assumption)) : QQ w b o p _).since⟩
end Kcv
end Go.Proofs.YtgfdomdbjiflmaaDoor
