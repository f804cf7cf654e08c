/- Joined texts. -/
-- PACK: YtgfdomdbjiflmaaGreatDoorKcv3
import Derived.Test.YtgfdomdbjiflmaaGreatDoorKv49
import Derived.Test.YtgfdomdbjiflmaaGreatDoorKv50

/- Package kcv, and its reference: what Split and Combine answer; what the laws of layer 45 call awake. -/
namespace Go.Proofs.YtgfdomdbjiflmaaGreatDoor
open Go.RowKit
namespace Kcv
open Att Kind Rec RefKcv
def splL (s : ByteArray) (l : List ByteArray) : List ByteArray := if splE s l = 0 then l ++ [sumB s l] else []
def SplA (f : Nat) (s : ByteArray) (l : List ByteArray) (L : List ByteArray) (E : Int) : Prop := ∀ w x, StrsS w x l → Calls Tryz.prog f #[.string s, x] w fun e w' => ∃ v, e = .returned (.tuple #[v, .int .i64 E]) ∧ w'.ownsRow w.heap.size 9 1 v L.length (L.map Value.string) ∧ Below w.heap.size w w'
set_option maxRecDepth 100000 in
theorem SplA.calls0 {f : Nat} {s : ByteArray} {l L : List ByteArray} {E : Int} (h : SplA f s l L E) {w : World} {x : Value} (hx : StrsS w x l) {R : Ending → World → Prop} (k : ∀ v w', w'.ownsRow w.heap.size 9 1 v L.length (L.map Value.string) → Since w w' → R (.returned (.tuple #[v, .int .i64 E])) w') : Calls Tryz.prog f #[.string s, x] w R :=
  (h w x hx).mono fun _ _ ⟨v, he, ho, hb⟩ => by subst he; exact k v _ ho hb
theorem own_strs {w : World} {base : Nat} {v : Value} {L : List ByteArray} (h : w.ownsRow base 9 1 v L.length (L.map Value.string)) : StrsS w v L := SlR.own h
theorem ne_of (s : ByteArray) (h : s.size ≠ 0) : s.toList.isEmpty = false := by
  have h2 := some_bytes s (by omega)
  simpa using h2
theorem emp_of (s : ByteArray) (h : s.size = 0) : s = ⟨#[]⟩ := by apply ba_ext; exact List.length_eq_zero_iff.1 h
theorem SplA.err {f : Nat} {s : ByteArray} {l : List ByteArray} {E : Int} (h : RdQ f l (fun x => #[.string s, x]) (.tuple #[.slice none 0 0, .int .i64 E])) : SplA f s l [] E :=
  fun w x hx => (h w x hx).mono fun _ _ ⟨he, hb⟩ => ⟨_, he, World.ownsRow_nil _ _ _ _, hb⟩
theorem SplP.a {w w' : World} {s : ByteArray} {l : List ByteArray} {e : Ending} (h : SplP w s l e w') : ∃ v, e = .returned (.tuple #[v, .int .i64 0]) ∧ w'.ownsRow w.heap.size 9 1 v (l ++ [sumB s l]).length ((l ++ [sumB s l]).map Value.string) ∧ Below w.heap.size w w' := by
  obtain ⟨v, h1, h2, h3⟩ := h
  exact ⟨v, h1, by rw [List.length_append]; exact h2, h3⟩
theorem split_any (s : ByteArray) (hz : s.size ≤ 100000) (l : List ByteArray) : SplA 30 s l (splL s l) (splE s l) := by
  unfold splL splE
  by_cases h0 : s.size = 0
  · rw [if_pos h0]
    obtain rfl := emp_of s h0
    exact SplA.err (split_empty l)
  · rw [if_neg h0]
    have hs := ne_of s h0
    by_cases h8 : 8 < l.length
    · rw [if_pos h8]
      exact SplA.err (split_full s hs l h8)
    · rw [if_neg h8]
      cases ha : l.all (asB s.size) with
      | true => exact fun w x hx => (split_ok s hs hz l (by omega) ha w x hx).mono fun _ _ h => h.a
      | false => exact SplA.err (split_len s hs l (by omega) ha)
def combE : List ByteArray → Int
  | [] => 1
  | p :: r => if 9 < (p :: r).length then 1 else if p.size = 0 then 3 else if (p :: r).all (asB p.size) then 0 else 9
def combS : List ByteArray → ByteArray
  | [] => ⟨#[]⟩
  | p :: r => if combE (p :: r) = 0 then sumB p r else ⟨#[]⟩
theorem comb_any (l : List ByteArray) (hl : ∀ p ∈ l, p.size ≤ 100000) : RdQ 31 l (fun x => #[x]) (.tuple #[.string (combS l), .int .i64 (combE l)]) := by
  cases l with
  | nil => exact comb_arg [] (.inl (by decide))
  | cons p r =>
    have hp := hl p List.mem_cons_self
    have hS : combS (p :: r) = if combE (p :: r) = 0 then sumB p r else ⟨#[]⟩ := rfl
    by_cases h9 : 9 < (p :: r).length
    · have e : combE (p :: r) = 1 := if_pos h9
      rw [hS, e, if_neg (by decide)]; exact comb_arg _ (.inr h9)
    · by_cases h0 : p.size = 0
      · have e : combE (p :: r) = 3 := (if_neg h9).trans (if_pos h0)
        rw [hS, e, if_neg (by decide)]
        exact comb_empty _ r r.length p rfl rfl (by simp at h9; omega) (emp_of p h0)
      · cases ha : (p :: r).all (asB p.size) with
        | true =>
          have e : combE (p :: r) = 0 := ((if_neg h9).trans (if_neg h0)).trans (if_pos ha)
          rw [hS, e, if_pos rfl]
          exact comb_ok _ r p rfl (by omega) (by simp) (ne_of p h0) hp ha _ rfl
        | false =>
          have e : combE (p :: r) = 9 := ((if_neg h9).trans (if_neg h0)).trans (if_neg (by rw [ha]; decide))
          rw [hS, e, if_neg (by decide)]
          exact comb_len _ r p rfl (by omega) (by simp) (ne_of p h0) ha
set_option maxRecDepth 100000 in
set_option maxHeartbeats 8000000 in
theorem awake_core (V : ByteArray) (hV : (V.size : Int) = 5) (c1 : SplA 30 ⟨#[97, 98]⟩ [⟨#[120, 121]⟩] [⟨#[120, 121]⟩, ⟨#[25, 27]⟩] 0) (c2 : RdQ 31 [⟨#[120, 121]⟩, ⟨#[25, 27]⟩] (fun x => #[x]) (.tuple #[.string ⟨#[97, 98]⟩, .int .i64 0]))
    (c3 : RdR 14 [] (fun x => #[rv 1 ⟨#[48, 49, 50, 51, 52, 53, 54, 55, 56, 57, 97, 98, 99, 100, 101, 102]⟩ ⟨#[]⟩ ⟨#[]⟩ ⟨#[]⟩ ⟨#[]⟩ x]) (.tuple #[.string V, .int .i64 0]))
    (c4 : RdR 18 [] (fun x => #[rv 1 ⟨#[48, 49, 50, 51, 52, 53, 54, 55, 56, 57, 97, 98, 99, 100, 101, 102]⟩ ⟨#[]⟩ ⟨#[]⟩ ⟨#[]⟩ ⟨#[]⟩ x, .string V]) (.tuple #[.bool true, .int .i64 0])) : KMk Tab2 13 #[] (.bool true) := by
  intro w hT
  have HS := Lib.hid ((Since.refl w).alloc (.cells #[.string ⟨#[120, 121]⟩] 9))
  have HT := Lib.hid (Kp.keep hT ((Below.refl _ w).alloc (Nat.le_refl _) (.cells #[.string ⟨#[120, 121]⟩] 9)))
  have HL : Hid (StrsS (w.alloc (.cells #[.string ⟨#[120, 121]⟩] 9)) (.slice (some ⟨w.heap.size, 0, none⟩) 1 1) [⟨#[120, 121]⟩]) := Lib.hid (SlR.lit w 1 1 [.string ⟨#[120, 121]⟩] rfl (by decide) #[.string ⟨#[120, 121]⟩] rfl 9)
  have t1 : ((V.size : Int) == 5) = true := beq_iff_eq.2 hV
  clear hT hV
  go_enter Tryz.func13, Tryz.ntmps13
  go_wp2_with fail
  refine c1.calls0 HL.out ?_
  intro v w1 ho h1
  replace HS := Lib.hid (HS.out.step h1)
  replace HT := Lib.hid (Kp.keep HT.out h1)
  have HV := Lib.hid (own_strs ho)
  obtain ⟨b, o, c, rfl, _, _, hlt, hcell⟩ := cells_at HV.out (by decide)
  have m0 := hcell 0 ⟨#[120, 121]⟩ rfl
  rw [Nat.add_zero] at m0
  clear ho h1 HL hcell
  go_wp2_with fail
  refine c2.calls0 HV.out ?_
  intro w2 h2
  replace HS := Lib.hid (HS.out.step h2)
  replace HT := Lib.hid (Kp.keep HT.out h2)
  replace m0 := (Below.cell h2 (p := ⟨b, o, none⟩) hlt).trans m0
  replace hlt := Nat.lt_of_lt_of_le hlt (Below.size h2)
  clear h2 HV
  go_wp2_with fail
  refine c3.calls0 HT.out (AttsS.nil _) ?_
  intro w3 h3
  replace HS := Lib.hid (HS.out.step h3)
  replace HT := Lib.hid (Kp.keep HT.out h3)
  replace m0 := (Below.cell h3 (p := ⟨b, o, none⟩) hlt).trans m0
  replace hlt := Nat.lt_of_lt_of_le hlt (Below.size h3)
  clear h3
  go_wp2_with fail
  refine c4.calls0 HT.out (AttsS.nil _) ?_
  intro w4 h4
  replace HS := Lib.hid (HS.out.step h4)
  replace m0 := (Below.cell h4 (p := ⟨b, o, none⟩) hlt).trans m0
  clear h4 HT hlt
  go_wp2_with fail
  go_ret
  exact ⟨rfl, HS.out⟩
def K16 : ByteArray := ⟨#[48, 49, 50, 51, 52, 53, 54, 55, 56, 57, 97, 98, 99, 100, 101, 102]⟩
theorem awake_k : KMk Tab2 13 #[] (.bool true) := by
  have hr : recE 1 K16 [] = 0 := by decide +kernel
  have c1 := split_any ⟨#[97, 98]⟩ (by decide) [⟨#[120, 121]⟩]
  have e1 : splL ⟨#[97, 98]⟩ [⟨#[120, 121]⟩] = [⟨#[120, 121]⟩, ⟨#[25, 27]⟩] := by decide +kernel
  have e2 : splE ⟨#[97, 98]⟩ [⟨#[120, 121]⟩] = 0 := by decide +kernel
  rw [e1, e2] at c1
  have c2 := comb_any [⟨#[120, 121]⟩, ⟨#[25, 27]⟩] (by decide)
  have e3 : combS [⟨#[120, 121]⟩, ⟨#[25, 27]⟩] = ⟨#[97, 98]⟩ := by decide +kernel
  have e4 : combE [⟨#[120, 121]⟩, ⟨#[25, 27]⟩] = 0 := by decide +kernel
  rw [e3, e4] at c2
  have c3 := of_rec 1 K16 ⟨#[]⟩ ⟨#[]⟩ ⟨#[]⟩ ⟨#[]⟩ [] (by decide)
  unfold ofV at c3
  rw [if_pos hr] at c3
  have c4 := ch_rec 1 K16 ⟨#[]⟩ ⟨#[]⟩ ⟨#[]⟩ ⟨#[]⟩ (ofS 1 K16) [] (by decide) (by rw [ofS_size]; decide)
  unfold chV at c4
  rw [hr, decide_eq_true rfl, decide_eq_true rfl] at c4
  exact awake_core (ofS 1 K16) (by rw [ofS_size]; rfl) c1 c2 c3 c4
theorem one_cell (l : List ByteArray) : l.flatMap (fun s => [Value.string s]) = l.map Value.string := by
  induction l with
  | nil => rfl
  | cons a l ih => rw [List.flatMap_cons, ih]; rfl
set_option maxRecDepth 100000 in
theorem strs_arg {H : Type} {enc : TypeId × Value → H} {w : World} {sp : Nat → Bool} {held : Bool} {fuel : Nat} {A : Option Addr} {n c : Nat} {d : DataW H} {ps : List MemPlace}
    (hf : DataW.trod enc Tryz.prog w 0 sp held fuel 52 (Value.slice A n c).cells.toList = some (d, ps)) (hlt : ∀ x ∈ ps, x.block < w.heap.size) :
    ∃ l : List ByteArray, StrsS w (.slice A n c) l ∧ n = l.length ∧ ∀ s ∈ l, s.size ≤ maxLen := by
  have hf2 : DataW.trod enc Tryz.prog w 0 sp held fuel 52 [Value.slice A n c] = some (d, ps) := by simpa [Value.cells] using hf
  obtain ⟨l, h1, h2, h3⟩ := arg_elems (k := 1) (fun s : ByteArray => [Value.string s]) (fun s => s.size ≤ maxLen) Tryz.underlying52 (by kernel_rfl) (by decide) (fun _ => rfl)
    (fun m cs z hz _ _ => by
      obtain ⟨x, e, _, hw⟩ := DataW.trod_string Tryz.underlying9 hz
      exact ⟨x, e, hw⟩) hf2 hlt
  rw [one_cell] at h2
  refine ⟨l, ?_, h1, h3⟩
  subst h1
  exact h2
end Kcv
end Go.Proofs.YtgfdomdbjiflmaaGreatDoor
