/- Joined texts. -/
-- PACK: YtgfdomdbjiflmaaDoorKcv3 YtgfdomdbjiflmaaDoorKcv4
import Derived.Test.YtgfdomdbjiflmaaDoorDj49
import Derived.Test.YtgfdomdbjiflmaaDoorDj50

/- Package kcv, and its reference: what Split and Combine answer; what the laws of layer 45 call awake. -/
namespace Go.Proofs.YtgfdomdbjiflmaaDoor
open Go.RowKit
namespace Kcv
open Att Kind Rec RefKcv
def splL (s : ByteArray) (l : List ByteArray) : List ByteArray := if splE s l = 0 then l ++ [sumB s l] else []
def SplA (f : Nat) (s : ByteArray) (l : List ByteArray) (L : List ByteArray) (E : Int) : Prop := ∀ w x, StrsS w x l → Calls Tryd.prog f #[.string s, x] w fun e w' => ∃ v, e = .returned (.tuple #[v, .int .i64 E]) ∧ w'.ownsRow w.heap.size 9 1 v L.length (L.map Value.string) ∧ Below w.heap.size w w'
set_option maxRecDepth 100000 in
theorem SplA.calls0 {f : Nat} {s : ByteArray} {l L : List ByteArray} {E : Int} (h : SplA f s l L E) {w : World} {x : Value} (hx : StrsS w x l) {R : Ending → World → Prop} (k : ∀ v w', w'.ownsRow w.heap.size 9 1 v L.length (L.map Value.string) → Since w w' → R (.returned (.tuple #[v, .int .i64 E])) w') : Calls Tryd.prog f #[.string s, x] w R :=
  (h w x hx).mono fun _ _ ⟨v, he, ho, hb⟩ => by subst he; exact k v _ ho hb
theorem own_strs {w : World} {base : Nat} {v : Value} {L : List ByteArray} (h : w.ownsRow base 9 1 v L.length (L.map Value.string)) : StrsS w v L := SlR.own h
theorem ne_of (s : ByteArray) (h : s.size ≠ 0) : s.toList.isEmpty = false := by
  have h2 := some_bytes s (by omega)
  simpa using h2
theorem emp_of (s : ByteArray) (h : s.size = 0) : s = ⟨#[]⟩ := by apply ba_ext; exact List.length_eq_zero_iff.1 h
theorem SplA.err {f : Nat} {s : ByteArray} {l : List ByteArray} {E : Int} (h : RdQ f l (fun x => #[.string s, x]) (.tuple #[.slice none 0 0, .int .i64 E])) : SplA f s l [] E :=
  fun w x hx => (h w x hx).mono fun _ _ ⟨he, hb⟩ => ⟨_, he, World.ownsRow_nil _ _ _ _, hb⟩
theorem SplP.a {w w' : World} {s : ByteArray} {l : List ByteArray} {e : Ending} (h : SplP w s l e w') : ∃ v, e = .returned (.tuple #[v, .int .i64 0]) ∧ w'.ownsRow w.heap.size 9 1 v (l ++ [sumB s l]).length ((l ++ [sumB s l]).map Value.string) ∧ Below w.heap.size w w' := by
  obtain ⟨v, h1, h2, h3⟩ := h
  exact ⟨v, h1, by rw [List.length_append]; exact h2, h3⟩
theorem split_any (s : ByteArray) (hz : s.size ≤ 100000) (l : List ByteArray) : SplA 29 s l (splL s l) (splE s l) := by
  unfold splL splE
  by_cases h0 : s.size = 0
  · rw [if_pos h0]
    obtain rfl := emp_of s h0
    exact SplA.err (split_empty l)
  · rw [if_neg h0]
    have hs := ne_of s h0
    by_cases h8 : 8 < l.length
    · rw [if_pos h8]
      exact SplA.err (split_full s hs l h8)
    · rw [if_neg h8]
      cases ha : l.all (asB s.size) with
      | true => exact fun w x hx => (split_ok s hs hz l (by omega) ha w x hx).mono fun _ _ h => h.a
      | false => exact SplA.err (split_len s hs l (by omega) ha)
theorem rsplit_any (s : ByteArray) (hz : s.size ≤ 100000) (l : List ByteArray) : SplA 30 s l (splL s l) (splE s l) := by
  unfold splL splE
  by_cases h0 : s.size = 0
  · rw [if_pos h0]
    obtain rfl := emp_of s h0
    exact SplA.err (rsplit_empty l)
  · rw [if_neg h0]
    have hs := ne_of s h0
    by_cases h8 : 8 < l.length
    · rw [if_pos h8]
      exact SplA.err (rsplit_full s hs l h8)
    · rw [if_neg h8]
      cases ha : l.all (asB s.size) with
      | true =>
        intro w x hx
        refine (rsplit_some s hs hz l (by omega) w x hx).mono fun _ _ h => ?_
        rcases h with ⟨_, h⟩ | ⟨h, _⟩
        · exact h.a
        · rw [ha] at h; cases h
      | false =>
        intro w x hx
        refine (rsplit_some s hs hz l (by omega) w x hx).mono fun _ _ h => ?_
        rcases h with ⟨h, _⟩ | ⟨_, h, hb⟩
        · rw [ha] at h; cases h
        · exact ⟨_, h, World.ownsRow_nil _ _ _ _, hb⟩
def combE : List ByteArray → Int
  | [] => 1
  | p :: r => if 9 < (p :: r).length then 1 else if p.size = 0 then 3 else if (p :: r).all (asB p.size) then 0 else 9
def combS : List ByteArray → ByteArray
  | [] => ⟨#[]⟩
  | p :: r => if combE (p :: r) = 0 then sumB p r else ⟨#[]⟩
theorem comb_any (l : List ByteArray) (hl : ∀ p ∈ l, p.size ≤ 100000) : RdQ 31 l (fun x => #[x]) (.tuple #[.string (combS l), .int .i64 (combE l)]) := by
  cases l with
  | nil => exact comb_arg [] (.inl (by decide))
  | cons p r =>
    have hp := hl p List.mem_cons_self
    have hS : combS (p :: r) = if combE (p :: r) = 0 then sumB p r else ⟨#[]⟩ := rfl
    by_cases h9 : 9 < (p :: r).length
    · have e : combE (p :: r) = 1 := if_pos h9
      rw [hS, e, if_neg (by decide)]; exact comb_arg _ (.inr h9)
    · by_cases h0 : p.size = 0
      · have e : combE (p :: r) = 3 := (if_neg h9).trans (if_pos h0)
        rw [hS, e, if_neg (by decide)]
        exact comb_empty _ r r.length p rfl rfl (by simp at h9; omega) (emp_of p h0)
      · cases ha : (p :: r).all (asB p.size) with
        | true =>
          have e : combE (p :: r) = 0 := ((if_neg h9).trans (if_neg h0)).trans (if_pos ha)
          rw [hS, e, if_pos rfl]
          exact comb_ok _ r p rfl (by omega) (by simp) (ne_of p h0) hp ha _ rfl
        | false =>
          have e : combE (p :: r) = 9 := ((if_neg h9).trans (if_neg h0)).trans (if_neg (by rw [ha]; decide))
          rw [hS, e, if_neg (by decide)]
          exact comb_len _ r p rfl (by omega) (by simp) (ne_of p h0) ha
theorem rcomb_any (l : List ByteArray) (hl : ∀ p ∈ l, p.size ≤ 100000) : RdQ 32 l (fun x => #[x]) (.tuple #[.string (combS l), .int .i64 (combE l)]) := by
  cases l with
  | nil => exact rcomb_arg [] (.inl (by decide))
  | cons p r =>
    have hp := hl p List.mem_cons_self
    have hS : combS (p :: r) = if combE (p :: r) = 0 then sumB p r else ⟨#[]⟩ := rfl
    by_cases h9 : 9 < (p :: r).length
    · have e : combE (p :: r) = 1 := if_pos h9
      rw [hS, e, if_neg (by decide)]; exact rcomb_arg _ (.inr h9)
    · by_cases h0 : p.size = 0
      · have e : combE (p :: r) = 3 := (if_neg h9).trans (if_pos h0)
        rw [hS, e, if_neg (by decide)]
        exact rcomb_empty _ r p rfl (by omega) (by simp) (emp_of p h0)
      · cases ha : (p :: r).all (asB p.size) with
        | true =>
          have e : combE (p :: r) = 0 := ((if_neg h9).trans (if_neg h0)).trans (if_pos ha)
          rw [hS, e, if_pos rfl]
          have h := rcomb_some (p :: r) r p rfl (by omega) (by simp) (ne_of p h0) hp _ rfl
          unfold combV at h
          rw [ha, if_pos rfl] at h; exact h
        | false =>
          have e : combE (p :: r) = 9 := ((if_neg h9).trans (if_neg h0)).trans (if_neg (by rw [ha]; decide))
          rw [hS, e, if_neg (by decide)]
          have h := rcomb_some (p :: r) r p rfl (by omega) (by simp) (ne_of p h0) hp _ rfl
          unfold combV at h
          rw [ha, if_neg (by decide)] at h; exact h
set_option maxRecDepth 100000 in
set_option maxHeartbeats 8000000 in
theorem awake_core (V : ByteArray) (hV : (V.size : Int) = 5) (c1 : SplA 29 ⟨#[97, 98]⟩ [⟨#[120, 121]⟩] [⟨#[120, 121]⟩, ⟨#[25, 27]⟩] 0) (c2 : RdQ 31 [⟨#[120, 121]⟩, ⟨#[25, 27]⟩] (fun x => #[x]) (.tuple #[.string ⟨#[97, 98]⟩, .int .i64 0]))
    (c3 : RdR 34 [] (fun x => #[rv 1 ⟨#[48, 49, 50, 51, 52, 53, 54, 55, 56, 57, 97, 98, 99, 100, 101, 102]⟩ ⟨#[]⟩ ⟨#[]⟩ ⟨#[]⟩ ⟨#[]⟩ x]) (.tuple #[.string V, .int .i64 0]))
    (c4 : RdR 35 [] (fun x => #[rv 1 ⟨#[48, 49, 50, 51, 52, 53, 54, 55, 56, 57, 97, 98, 99, 100, 101, 102]⟩ ⟨#[]⟩ ⟨#[]⟩ ⟨#[]⟩ ⟨#[]⟩ x, .string V]) (.tuple #[.bool true, .int .i64 0])) : KMk Tab2 28 #[] (.bool true) := by
  intro w hT
  have HS := Lib.hid ((Since.refl w).alloc (.cells #[.string ⟨#[120, 121]⟩] 9))
  have HT := Lib.hid (Kp.keep hT ((Below.refl _ w).alloc (Nat.le_refl _) (.cells #[.string ⟨#[120, 121]⟩] 9)))
  have HL : Hid (StrsS (w.alloc (.cells #[.string ⟨#[120, 121]⟩] 9)) (.slice (some ⟨w.heap.size, 0, none⟩) 1 1) [⟨#[120, 121]⟩]) := Lib.hid (SlR.lit w 1 1 [.string ⟨#[120, 121]⟩] rfl (by decide) #[.string ⟨#[120, 121]⟩] rfl 9)
  have t1 : ((V.size : Int) == 5) = true := beq_iff_eq.2 hV
  clear hT hV
  go_enter Tryd.func28, Tryd.ntmps28
  go_wp2_with fail
  refine c1.calls0 HL.out ?_
  intro v w1 ho h1
  replace HS := Lib.hid (HS.out.step h1)
  replace HT := Lib.hid (Kp.keep HT.out h1)
  have HV := Lib.hid (own_strs ho)
  obtain ⟨b, o, c, rfl, _, _, hlt, hcell⟩ := cells_at HV.out (by decide)
  have m0 := hcell 0 ⟨#[120, 121]⟩ rfl
  rw [Nat.add_zero] at m0
  clear ho h1 HL hcell
  go_wp2_with fail
  refine c2.calls0 HV.out ?_
  intro w2 h2
  replace HS := Lib.hid (HS.out.step h2)
  replace HT := Lib.hid (Kp.keep HT.out h2)
  replace m0 := (Below.cell h2 (p := ⟨b, o, none⟩) hlt).trans m0
  replace hlt := Nat.lt_of_lt_of_le hlt (Below.size h2)
  clear h2 HV
  go_wp2_with fail
  refine c3.calls0 HT.out (AttsS.nil _) ?_
  intro w3 h3
  replace HS := Lib.hid (HS.out.step h3)
  replace HT := Lib.hid (Kp.keep HT.out h3)
  replace m0 := (Below.cell h3 (p := ⟨b, o, none⟩) hlt).trans m0
  replace hlt := Nat.lt_of_lt_of_le hlt (Below.size h3)
  clear h3
  go_wp2_with fail
  refine c4.calls0 HT.out (AttsS.nil _) ?_
  intro w4 h4
  replace HS := Lib.hid (HS.out.step h4)
  replace m0 := (Below.cell h4 (p := ⟨b, o, none⟩) hlt).trans m0
  clear h4 HT hlt
  go_wp2_with fail
  go_ret
  exact ⟨rfl, HS.out⟩
def K16 : ByteArray := ⟨#[48, 49, 50, 51, 52, 53, 54, 55, 56, 57, 97, 98, 99, 100, 101, 102]⟩
theorem awake_k : KMk Tab2 28 #[] (.bool true) := by
  have hr : recE 1 K16 [] = 0 := by decide +kernel
  have c1 := split_any ⟨#[97, 98]⟩ (by decide) [⟨#[120, 121]⟩]
  have e1 : splL ⟨#[97, 98]⟩ [⟨#[120, 121]⟩] = [⟨#[120, 121]⟩, ⟨#[25, 27]⟩] := by decide +kernel
  have e2 : splE ⟨#[97, 98]⟩ [⟨#[120, 121]⟩] = 0 := by decide +kernel
  rw [e1, e2] at c1
  have c2 := comb_any [⟨#[120, 121]⟩, ⟨#[25, 27]⟩] (by decide)
  have e3 : combS [⟨#[120, 121]⟩, ⟨#[25, 27]⟩] = ⟨#[97, 98]⟩ := by decide +kernel
  have e4 : combE [⟨#[120, 121]⟩, ⟨#[25, 27]⟩] = 0 := by decide +kernel
  rw [e3, e4] at c2
  have c3 := of_rec 1 K16 ⟨#[]⟩ ⟨#[]⟩ ⟨#[]⟩ ⟨#[]⟩ [] (by decide)
  unfold ofV at c3
  rw [if_pos hr] at c3
  have c4 := ch_rec 1 K16 ⟨#[]⟩ ⟨#[]⟩ ⟨#[]⟩ ⟨#[]⟩ (ofS 1 K16) [] (by decide) (by rw [ofS_size]; decide)
  unfold chV at c4
  rw [hr, decide_eq_true rfl, decide_eq_true rfl] at c4
  exact awake_core (ofS 1 K16) (by rw [ofS_size]; rfl) c1 c2 c3 c4
theorem one_cell (l : List ByteArray) : l.flatMap (fun s => [Value.string s]) = l.map Value.string := by
  induction l with
  | nil => rfl
  | cons a l ih => rw [List.flatMap_cons, ih]; rfl
set_option maxRecDepth 100000 in
theorem strs_arg {H : Type} {enc : TypeId × Value → H} {w : World} {sp : Nat → Bool} {held : Bool} {fuel : Nat} {A : Option Addr} {n c : Nat} {d : DataW H} {ps : List MemPlace}
    (hf : DataW.trod enc Tryd.prog w 0 sp held fuel 30 (Value.slice A n c).cells.toList = some (d, ps)) (hlt : ∀ x ∈ ps, x.block < w.heap.size) :
    ∃ l : List ByteArray, StrsS w (.slice A n c) l ∧ n = l.length ∧ ∀ s ∈ l, s.size ≤ maxLen := by
  have hf2 : DataW.trod enc Tryd.prog w 0 sp held fuel 30 [Value.slice A n c] = some (d, ps) := by simpa [Value.cells] using hf
  obtain ⟨l, h1, h2, h3⟩ := arg_elems (k := 1) (fun s : ByteArray => [Value.string s]) (fun s => s.size ≤ maxLen) Tryd.underlying30 (by kernel_rfl) (by decide) (fun _ => rfl)
    (fun m cs z hz _ _ => by
      obtain ⟨x, e, _, hw⟩ := DataW.trod_string Tryd.underlying9 hz
      exact ⟨x, e, hw⟩) hf2 hlt
  rw [one_cell] at h2
  refine ⟨l, ?_, h1, h3⟩
  subst h1
  exact h2
end Kcv
end Go.Proofs.YtgfdomdbjiflmaaDoor

/- Package kcv: what was split is combined as it was, also the other way round. -/
namespace Go.Proofs.YtgfdomdbjiflmaaDoor
open Go.RowKit Go.Lib Go.Sort
namespace Kcv
/-- a string's byte as a number -/
def xj (j : Nat) (s : ByteArray) : Nat := (s.data.toList.getD j 0).toNat
def xR (l : List Nat) : Nat := l.foldr (· ^^^ ·) 0
theorem xR_app (a b : List Nat) : xR (a ++ b) = xR a ^^^ xR b := by
  induction a with
  | nil => show xR b = 0 ^^^ xR b; rw [Nat.zero_xor]
  | cons x a ih => show x ^^^ xR (a ++ b) = (x ^^^ xR a) ^^^ xR b; rw [ih, Nat.xor_assoc]
theorem xR_one (x : Nat) : xR [x] = x := Nat.xor_zero x
theorem xR_rev (a : List Nat) : xR a.reverse = xR a := by
  induction a with
  | nil => rfl
  | cons x a ih => rw [List.reverse_cons, xR_app, ih, xR_one]; exact Nat.xor_comm _ _
theorem xj_lt (j : Nat) (s : ByteArray) : xj j s < 256 := UInt8.toNat_lt _
theorem xj_xor (a b : ByteArray) (j : Nat) (h1 : j < a.size) (h2 : j < b.size) : xj j (Sched.xorS a b) = xj j a ^^^ xj j b := by
  unfold xj Sched.xorS
  rw [strOfNums_data]
  have hlt : j < (List.range (min a.size b.size)).length := by rw [List.length_range]; omega
  have hx : (a.data.toList.getD j 0).toNat ^^^ (b.data.toList.getD j 0).toNat < 2 ^ 8 := Nat.xor_lt_two_pow (UInt8.toNat_lt _) (UInt8.toNat_lt _)
  simp only [List.map_map, List.getD, List.getElem?_map, List.getElem?_range (by omega : j < min a.size b.size), Option.map_some, Option.getD_some, Function.comp, Oct.xorV, Int.toNat_natCast, UInt8.toNat_ofNat']
  simp only [List.getD] at hx
  exact Nat.mod_eq_of_lt hx
theorem xj_ext (a b : ByteArray) (hs : a.size = b.size) (h : ∀ j, j < a.size → xj j a = xj j b) : a = b := by
  apply ba_ext
  apply List.ext_getElem
  · exact hs
  · intro j h1 h2
    have h3 := h j h1
    unfold xj at h3
    rw [List.getD, List.getD, List.getElem?_eq_getElem h1, List.getElem?_eq_getElem h2] at h3
    exact UInt8.toNat_inj.1 h3
theorem sum_x (n : Nat) : ∀ (l : List ByteArray) (s : ByteArray), s.size = n → (∀ p ∈ l, p.size = n) → (sumB s l).size = n ∧ ∀ j, j < n → xj j (sumB s l) = xj j s ^^^ xR (l.map (xj j))
  | [], s, hs, _ => ⟨hs, fun j _ => (Nat.xor_zero _).symm⟩
  | a :: l, s, hs, hl => by
    have ha := hl a List.mem_cons_self
    have h1 : (Sched.xorS s a).size = n := by rw [Sched.xorS_size]; omega
    obtain ⟨h2, h3⟩ := sum_x n l (Sched.xorS s a) h1 (fun p hp => hl p (List.mem_cons_of_mem _ hp))
    refine ⟨h2, fun j hj => ?_⟩
    show xj j (sumB (Sched.xorS s a) l) = xj j s ^^^ (xj j a ^^^ xR (l.map (xj j)))
    rw [h3 j hj, xj_xor s a j (by omega) (by omega), Nat.xor_assoc]
theorem all_as {l : List ByteArray} {n : Nat} : l.all (asB n) = true ↔ ∀ p ∈ l, p.size = n := by
  rw [List.all_eq_true]
  exact ⟨fun h p hp => of_decide_eq_true (h p hp), fun h p hp => decide_eq_true (h p hp)⟩
/-- parts of one size whose sum is known -/
theorem comb_x (M : List ByteArray) (key : ByteArray) (h0 : 0 < M.length) (h9 : M.length ≤ 9) (hk : key.size ≠ 0) (hM : ∀ p ∈ M, p.size = key.size) (hx : ∀ j, j < key.size → xR (M.map (xj j)) = xj j key) : combE M = 0 ∧ combS M = key := by
  cases M with
  | nil => exact absurd h0 (by decide)
  | cons p r =>
    have hp := hM p List.mem_cons_self
    have ha : (p :: r).all (asB p.size) = true := all_as.2 (fun y hy => by rw [hM y hy, hp])
    have e : combE (p :: r) = 0 := ((if_neg (by omega)).trans (if_neg (by omega))).trans (if_pos ha)
    refine ⟨e, ?_⟩
    have hS : combS (p :: r) = if combE (p :: r) = 0 then sumB p r else ⟨#[]⟩ := rfl
    rw [hS, e, if_pos rfl]
    obtain ⟨h1, h2⟩ := sum_x key.size r p hp (fun y hy => hM y (List.mem_cons_of_mem _ hy))
    refine xj_ext _ _ h1 (fun j hj => ?_)
    rw [h1] at hj
    rw [h2 j hj]
    exact hx j hj
theorem spl_back (key : ByteArray) (l : List ByteArray) (h : splE key l = 0) : key.size ≠ 0 ∧ l.length ≤ 8 ∧ splL key l = l ++ [sumB key l] ∧
    (combE (splL key l) = 0 ∧ combS (splL key l) = key) ∧ (combE (splL key l).reverse = 0 ∧ combS (splL key l).reverse = key) := by
  have hL : splL key l = l ++ [sumB key l] := by unfold splL; rw [if_pos h]
  unfold splE at h
  split at h
  · cases h
  · split at h
    · cases h
    · split at h
      · rename_i h1 h2 h3
        have hl := all_as.1 h3
        obtain ⟨s1, s2⟩ := sum_x key.size l key rfl hl
        have hM : ∀ p ∈ l ++ [sumB key l], p.size = key.size := by
          intro p hp
          rcases List.mem_append.1 hp with hp | hp
          · exact hl p hp
          · rw [List.mem_singleton.1 hp]; exact s1
        have hx : ∀ j, j < key.size → xR ((l ++ [sumB key l]).map (xj j)) = xj j key := by
          intro j hj
          rw [List.map_append, xR_app]
          show xR (l.map (xj j)) ^^^ xR [xj j (sumB key l)] = _
          rw [xR_one, s2 j hj, Nat.xor_comm, Nat.xor_assoc, Nat.xor_self, Nat.xor_zero]
        refine ⟨h1, by omega, hL, ?_, ?_⟩
        · rw [hL]
          exact comb_x _ key (by simp) (by simp; omega) h1 hM hx
        · rw [hL]
          refine comb_x _ key (by simp) (by simp; omega) h1 (fun p hp => hM p (List.mem_reverse.1 hp)) (fun j hj => ?_)
          rw [List.map_reverse, xR_rev]
          exact hx j hj
      · cases h
theorem since_setCells {w0 : World} {g : Nat} (hg : w0.heap.size ≤ g) : ∀ (vs : List Value) (o : Nat) (W : World), Since w0 W → Since w0 (W.setCells g o vs)
  | [], _, _, h => h
  | v :: vs, o, W, h => since_setCells hg vs (o + 1) (W.setCell ⟨g, o, none⟩ v) (Below.setCell (p := ⟨g, o, none⟩) h hg v)
theorem size_cells (g : Nat) : ∀ (vs : List Value) (o : Nat) (W : World), (W.setCells g o vs).heap.size = W.heap.size
  | [], _, _ => rfl
  | v :: vs, o, W => by
    show ((W.setCell ⟨g, o, none⟩ v).setCells g (o + 1) vs).heap.size = _
    rw [size_cells g vs (o + 1)]
    simp [World.setCell]
set_option maxRecDepth 100000 in
theorem rev_own (w0 W : World) (v : Value) (L : List ByteArray) (h0 : 0 < L.length) (ho : W.ownsRow w0.heap.size 9 1 v L.length (L.map Value.string)) (hs : Since w0 W) (hl : L.length ≤ 100000) :
    Calls Tryd.prog 33 #[v] W fun e w' => e = .returned (.tuple #[]) ∧ StrsS w' v L.reverse ∧ Since w0 w' := by
  rcases ho.2 with ⟨rfl, hn⟩ | ⟨g, cap, cur, rfl, hb, hg, hc, hm, hsz, ht⟩
  · omega
  · rw [Nat.mul_one] at ht
    have hcell : ∀ i, i < L.length → W.cell? ⟨g, 0 + i, none⟩ = some (.string (L.getD i ⟨#[]⟩)) := by
      intro i hi
      have h1 : (cur.toList.take L.length)[i]? = some (.string (L.getD i ⟨#[]⟩)) := by rw [ht]; simp [List.getD, hi]
      rw [List.getElem?_take, if_pos hi] at h1
      unfold World.cell?
      rw [hg, Nat.zero_add]
      simpa using h1
    have hf : ∀ j, j < L.length → W.frozen? ⟨g, 0 + j, none⟩ = false := by
      intro j hj
      unfold World.frozen?
      rw [hg]
      simp
    have h := Tryd.slices_Reverse_string_cells g 0 L.length cap (fun i => L.getD i ⟨#[]⟩) W (by omega) hcell hf
    refine h.mono fun e w' ⟨he, q, hw⟩ => ⟨he, ?_, ?_⟩
    · have hlist : ((strsOf (fun i => L.getD i ⟨#[]⟩) L.length).reverse.map encStr) = L.reverse.map Value.string := by
        rw [List.map_reverse, List.map_reverse]
        congr 1
        apply List.ext_getElem?
        intro i
        unfold strsOf
        by_cases hi : i < L.length
        · simp [hi, List.getD]
        · simp [hi]
      rw [hlist] at hw
      subst hw
      have hlen : (L.reverse.map Value.string).length = L.length := by simp
      refine ⟨by simp, _, _, by rw [List.length_reverse], by simpa using hc, hm, .inr ⟨g, 0, rfl, ?_, fun i u hu => ?_⟩⟩
      · rw [size_cells]; exact (Array.getElem?_eq_some_iff.1 hg).1
      · have hi : i < L.length := by have := (List.getElem?_eq_some_iff.1 hu).1; omega
        have h9 := World.cell?_setCells_in g (L.reverse.map Value.string) 0 (W.drewN q) (fun j hj => by
          have h7 := hcell j (by omega)
          rw [show (W.drewN q).cell? ⟨g, 0 + j, none⟩ = W.cell? ⟨g, 0 + j, none⟩ from rfl, h7]; rfl) i (by omega)
        rw [h9, ← hu]
        exact (List.getElem?_eq_getElem _).symm
    · rw [hw]
      exact since_setCells hb _ _ _ (hs.step (Att.belowN _ _))
end Kcv
end Go.Proofs.YtgfdomdbjiflmaaDoor
