/- Joined texts. -/
-- PACK: YtddlaafpianjbaaDoorOid3 YtddlaafpianjbaaDoorOid4 YtddlaafpianjbaaDoorOid5 YtddlaafpianjbaaDoorOid8
import Derived.Test.YtddlaafpianjbaaDoorUs8
import Derived.Test.YtddlaafpianjbaaDoorUs15
import Derived.Test.YtddlaafpianjbaaDoorUs5

/- The reference of oid: Right. Both: Encode, Text. -/
namespace Go.Proofs.YtddlaafpianjbaaDoor
open Go.RowKit
namespace Oid

/-- a call that is handed a slice of numbers -/
def RdI (f : Nat) (xs : List Int) (v : Value) : Prop := ∀ w x, IntsS w x xs → Calls Tryd.prog f #[x] w fun e w' => e = .returned v ∧ Below w.heap.size w w'
set_option maxRecDepth 100000 in
theorem RdI.calls {f : Nat} {xs : List Int} {v x : Value} (h : RdI f xs v) {W0 w : World} (hs : Since W0 w) (hx : IntsS w x xs) {R : Ending → World → Prop} (k : ∀ w', Since W0 w' → R (.returned v) w') : Calls Tryd.prog f #[x] w R :=
  (h w x hx).mono fun _ _ ⟨he, hb⟩ => by subst he; exact k _ (hs.step hb)

theorem encN_snoc (l : List Nat) (n : Nat) : encN (l ++ [n]) = encN l ++ num n := by simp [encN]
theorem encN_len (l : List Nat) (h : ∀ n ∈ l, n ≤ 2147483647) : (encN l).length ≤ 5 * l.length := by
  induction l with
  | nil => simp [encN]
  | cons n l ih =>
    rw [show encN (n :: l) = num n ++ encN l from rfl, List.length_append, List.length_cons]
    have := ih fun m hm => h m (by simp [hm])
    have := num_len n (by have := h n (by simp); omega)
    omega
/-- what the first k arcs, two at least, are as contents -/
def encU (xs : List Int) (k : Nat) : List UInt8 := num (40 * xs.getD 0 0 + xs.getD 1 0).toNat ++ encN (((xs.drop 2).take k).map Int.toNat)
theorem encU_0 (xs : List Int) : encU xs 0 = num (40 * xs.getD 0 0 + xs.getD 1 0).toNat := by simp [encU, encN]
theorem encU_succ (xs : List Int) (k : Nat) (h : k + 2 < xs.length) : encU xs (k + 1) = encU xs k ++ num (xs.getD (k + 2) 0).toNat := by
  unfold encU
  rw [List.take_succ_eq_append_getElem (by rw [List.length_drop]; omega), List.map_append, List.map_singleton, encN_snoc, List.append_assoc]
  congr 4
  rw [List.getElem_drop]
  simp [List.getD, List.getElem?_eq_getElem h, Nat.add_comm]
theorem encU_all (xs : List Int) (h : Ok xs) (k : Nat) (hk : xs.length = k + 2) : encU xs k = enc xs := by
  match xs, h with
  | a :: b :: r, h =>
    simp only [List.length_cons] at hk
    unfold encU enc
    simp only [List.getD_cons_zero, List.getD_cons_succ, List.drop_succ_cons, List.drop_zero]
    rw [List.take_of_length_le (by omega)]
theorem encU_len (xs : List Int) (h : Ok xs) (k : Nat) : (encU xs k).length ≤ 200 := by
  match xs, h with
  | a :: b :: r, ⟨hr, ha, ha2, hb, hb2, hx⟩ =>
    unfold encU
    simp only [List.getD_cons_zero, List.getD_cons_succ, List.drop_succ_cons, List.drop_zero]
    rw [List.length_append]
    have h1 := num_len (40 * a + b).toNat (by omega)
    have h2 := encN_len ((r.take k).map Int.toNat) (fun n hn => by
      obtain ⟨x, hx2, rfl⟩ := List.mem_map.1 hn
      have := hx x (List.mem_of_mem_take hx2); omega)
    rw [List.length_map, List.length_take] at h2
    omega
theorem ok_at (xs : List Int) (h : Ok xs) (k : Nat) (hk : k < xs.length) : 0 ≤ xs.getD k 0 ∧ xs.getD k 0 ≤ 2147483647 := by
  obtain ⟨h1, h2, h3, h4, h5⟩ := (ok_iff xs).1 h
  cases k with
  | zero => omega
  | succ k =>
    have := h5 k hk
    unfold mst at this
    split at this <;> (try split at this) <;> omega
end Oid
end Go.Proofs.YtddlaafpianjbaaDoor

/- Package oid and its reference: Encode in the reference, Text in both. -/
namespace Go.Proofs.YtddlaafpianjbaaDoor
open Go.RowKit
namespace Oid

/-- the text of arcs -/
def txtN (l : List Int) : List UInt8 := l.flatMap fun x => 46 :: Dig.numS x
def txtU (xs : List Int) (k : Nat) : List UInt8 := Dig.numS (xs.getD 0 0) ++ txtN ((xs.drop 1).take k)
def txt : List Int → List UInt8
  | [] => []
  | a :: r => Dig.numS a ++ txtN r
theorem txtN_snoc (l : List Int) (x : Int) : txtN (l ++ [x]) = txtN l ++ 46 :: Dig.numS x := by simp [txtN]
theorem txtU_0 (xs : List Int) : txtU xs 0 = Dig.numS (xs.getD 0 0) := by simp [txtU, txtN]
theorem txtU_succ (xs : List Int) (k : Nat) (h : k + 1 < xs.length) : txtU xs (k + 1) = txtU xs k ++ 46 :: Dig.numS (xs.getD (k + 1) 0) := by
  unfold txtU
  rw [List.take_succ_eq_append_getElem (by rw [List.length_drop]; omega), txtN_snoc, List.append_assoc]
  congr 4
  rw [List.getElem_drop]
  simp [List.getD, List.getElem?_eq_getElem h, Nat.add_comm]
theorem txtU_all (xs : List Int) (k : Nat) (hk : xs.length = k + 1) : txtU xs k = txt xs := by
  match xs, hk with
  | a :: r, hk =>
    simp only [List.length_cons] at hk
    unfold txtU txt
    simp only [List.getD_cons_zero, List.drop_succ_cons, List.drop_zero]
    rw [List.take_of_length_le (by omega)]
theorem numS_len (x : Int) (h : -9223372036854775808 ≤ x ∧ x ≤ 9223372036854775807) : (Dig.numS x).length ≤ 21 := by
  have hlt : x.natAbs < 10 ^ 20 := Nat.lt_of_le_of_lt (show x.natAbs ≤ 9223372036854775808 by omega) (by decide)
  have := (RefDig.digs_spec 20 x.natAbs (by decide) hlt).2.1
  unfold Dig.numS
  split <;> simp <;> omega
theorem txtN_len (l : List Int) (h : ∀ x ∈ l, -9223372036854775808 ≤ x ∧ x ≤ 9223372036854775807) : (txtN l).length ≤ 22 * l.length := by
  induction l with
  | nil => simp [txtN]
  | cons x l ih =>
    rw [show txtN (x :: l) = (46 :: Dig.numS x) ++ txtN l from rfl, List.length_append, List.length_cons, List.length_cons]
    have := ih fun m hm => h m (by simp [hm])
    have := numS_len x (h x (by simp))
    omega
theorem ok_mem (xs : List Int) (h : Ok xs) (x : Int) (hx : x ∈ xs) : 0 ≤ x ∧ x ≤ 2147483647 := by
  obtain ⟨i, hi, rfl⟩ := List.getElem_of_mem hx
  have := ok_at xs h i hi
  simpa [List.getD, hi] using this
theorem txtU_len (xs : List Int) (h : Ok xs) (k : Nat) (hk : k ≤ 20) : (txtU xs k).length ≤ 500 := by
  unfold txtU
  rw [List.length_append]
  have h2 := ((ok_iff xs).1 h).1
  have h0 := ok_at xs h 0 (by omega)
  have h1 := numS_len (xs.getD 0 0) (by omega)
  have h3 := txtN_len ((xs.drop 1).take k) (fun x hx => by
    have := ok_mem xs h x (List.mem_of_mem_drop (List.mem_of_mem_take hx)); omega)
  rw [List.length_take] at h3
  omega
end Oid
end Go.Proofs.YtddlaafpianjbaaDoor

/- The reference of oid: Decode. -/
namespace Go.Proofs.YtddlaafpianjbaaDoor
open Go.RowKit

/-- a call that makes a slice of numbers, and tells whether -/
def MkI (f : Nat) (args : Array Value) (xs : List Int) (b : Bool) : Prop := ∀ w, Calls Tryd.prog f args w fun e w' => ∃ v, e = .returned (.tuple #[v, .bool b]) ∧ IntsS w' v xs ∧ Below w.heap.size w w'
set_option maxRecDepth 100000 in
theorem MkI.calls {f : Nat} {args : Array Value} {xs : List Int} {b : Bool} (h : MkI f args xs b) {W0 w : World} (hs : Since W0 w) {R : Ending → World → Prop} (k : ∀ v w', IntsS w' v xs → Below w.heap.size w w' → Since W0 w' → R (.returned (.tuple #[v, .bool b])) w') : Calls Tryd.prog f args w R :=
  (h w).mono fun _ _ ⟨v, he, ho, hb⟩ => by subst he; exact k v _ ho hb (hs.step hb)
set_option maxRecDepth 100000 in
theorem MkI.calls0 {f : Nat} {args : Array Value} {xs : List Int} {b : Bool} (h : MkI f args xs b) {w : World} {R : Ending → World → Prop} (k : ∀ v w', IntsS w' v xs → Since w w' → R (.returned (.tuple #[v, .bool b])) w') : Calls Tryd.prog f args w R :=
  (h w).mono fun _ _ ⟨v, he, ho, hb⟩ => by subst he; exact k v _ ho hb
def IntsO (w0 w : World) (v : Value) (n : Nat) (xs : List Int) : Prop := w.ownsRow w0.heap.size 3 1 v n (xs.map (Value.int .i64))
theorem IntsO.read {w0 w : World} {v : Value} {n : Nat} {xs : List Int} (h : IntsO w0 w v n xs) : IntsS w v xs := by
  have hn : xs.length = n := by have := h.1; simpa using this
  unfold IntsS
  rw [hn]
  exact SlR.own h
theorem IntsO.since {w0 w w' : World} {v : Value} {n : Nat} {xs : List Int} (h : IntsO w0 w v n xs) (hs : Since w w') : IntsO w0 w' v n xs := by
  refine h.kept (row := none) ⟨hs.os, hs.tape, hs.output, hs.size, fun k hk _ => hs.block k hk⟩ ?_
  cases hv : v.ownBlock with
  | none => exact Or.inl rfl
  | some k => exact Or.inr (by simp)
theorem IntsO.len {w0 w : World} {v : Value} {n : Nat} {xs : List Int} (h : IntsO w0 w v n xs) : xs.length = n := by have := h.1; simpa using this
theorem IntsO.slice {w0 w : World} {v : Value} {n : Nat} {xs : List Int} (h : IntsO w0 w v n xs) : ∃ A c, v = .slice A n c := by
  rcases h.2 with ⟨rfl, rfl⟩ | ⟨g, cap, cur, rfl, _⟩
  · exact ⟨_, _, rfl⟩
  · exact ⟨_, _, rfl⟩
namespace Oid

theorem rd_no (c : List UInt8) (h : rd c 0 [] = none) : decL c = [] ∧ decB c = false := by
  have hb : decB c = false := by
    cases hd : decB c with
    | false => rfl
    | true =>
      obtain ⟨h1, h2⟩ := (dec_iff c (decL c)).1 ⟨hd, rfl⟩
      have := rd_enc _ h1
      rw [h2, h] at this
      cases this
  exact ⟨dec_false c hb, hb⟩
theorem rd_some (c : List UInt8) (l : List Int) (h : rd c 0 [] = some l) (hn : ¬ (Ok l ∧ enc l = c)) : decL c = [] ∧ decB c = false := by
  have hb : decB c = false := by
    cases hd : decB c with
    | false => rfl
    | true =>
      obtain ⟨h1, h2⟩ := (dec_iff c (decL c)).1 ⟨hd, rfl⟩
      have := rd_enc _ h1
      rw [h2, h] at this
      have := Option.some.inj this
      subst this
      exact absurd ⟨h1, h2⟩ hn
  exact ⟨dec_false c hb, hb⟩
theorem drop_at (c : ByteArray) (k : Nat) (h : k < c.size) : c.data.toList.drop k = c[k] :: c.data.toList.drop (k + 1) := by
  rw [List.drop_eq_getElem_cons (by simpa using h)]; rfl
theorem drop_end (c : ByteArray) (k : Nat) (h : c.size ≤ k) : c.data.toList.drop k = [] := List.drop_eq_nil_of_le (by simpa using h)

end Oid
end Go.Proofs.YtddlaafpianjbaaDoor

/- Package oid: names read out of texts: plain mathematics; Unnum; the reference's Parse. -/
namespace Go.Proofs.YtddlaafpianjbaaDoor
open Go.RowKit
namespace Oid
open Dig

def unB (l : List UInt8) : Bool := decide (numS (unV l) = l)
def unN (l : List UInt8) : Int := if unB l then unV l else 0
theorem bs_eq (m : List UInt8) (s : ByteArray) : bs m = s ↔ m = s.data.toList := ⟨fun h => by rw [← h, list_bs], fun h => by rw [h]; exact bs_list s⟩
theorem numS_20 (x : Int) (h : -9223372036854775808 ≤ x ∧ x ≤ 9223372036854775807) : (numS x).length ≤ 20 := by
  have hlt : x.natAbs < 10 ^ 19 := Nat.lt_of_le_of_lt (show x.natAbs ≤ 9223372036854775808 by omega) (by decide)
  have h1 := (RefDig.digs_spec 19 x.natAbs (by decide) hlt).2.1
  have h2 := RefDig.digs_fuel 19 x.natAbs hlt (by decide)
  unfold numS
  rw [← h2]
  split <;> simp <;> omega
theorem numS_ne (x : Int) : numS x ≠ [] := by
  unfold numS
  split
  · simp
  · exact (digs_head 20 _ (by decide)).1
theorem unB_iff (s : ByteArray) : decide (bs (numS (unV s.data.toList)) = s) = unB s.data.toList := by
  unfold unB
  exact decide_eq_decide.2 (bs_eq _ _)
theorem unN_if (s : ByteArray) : (if bs (numS (unV s.data.toList)) = s then unV s.data.toList else 0) = unN s.data.toList := by
  unfold unN unB
  by_cases h : numS (unV s.data.toList) = s.data.toList
  · rw [if_pos ((bs_eq _ _).2 h), if_pos (by simpa using h)]
  · rw [if_neg (fun h2 => h ((bs_eq _ _).1 h2)), if_neg (by simpa using h)]
theorem unB_long (l : List UInt8) (h : 20 < l.length) : unB l = false := by
  unfold unB
  refine decide_eq_false (fun h2 => ?_)
  have := numS_20 (unV l) (unV_bounds l)
  rw [h2] at this; omega
theorem unB_nil : unB [] = false := decide_eq_false (numS_ne _)
theorem unN_false (l : List UInt8) (h : unB l = false) : unN l = 0 := by unfold unN; rw [h]; rfl
theorem unN_bounds (l : List UInt8) : -9223372036854775808 ≤ unN l ∧ unN l ≤ 9223372036854775807 := by
  unfold unN
  split
  · exact unV_bounds l
  · omega
/-- the parts between points -/
def spl (cur : List UInt8) : List UInt8 → List (List UInt8)
  | [] => [cur]
  | c :: cs => if c = 46 then cur :: spl [] cs else spl (cur ++ [c]) cs
/-- the arcs that parts are -/
def pp : List (List UInt8) → List Int → Option (List Int)
  | [], l => some l
  | p :: ps, l => if unB p = false ∨ l.length = 20 then none else pp ps (l ++ [unN p])
def parL (t : List UInt8) : List Int := ((pp (spl [] t) []).filter fun l => decide (Ok l)).getD []
def parB (t : List UInt8) : Bool := ((pp (spl [] t) []).filter fun l => decide (Ok l)).isSome
theorem par_some (c : List UInt8) (m : List Int) (h : pp (spl [] c) [] = some m) (hk : Ok m) : parL c = m ∧ parB c = true := by
  unfold parL parB; rw [h]; simp [hk, Option.filter]
theorem par_bad (c : List UInt8) (m : List Int) (h : pp (spl [] c) [] = some m) (hk : ¬ Ok m) : parL c = [] ∧ parB c = false := by
  unfold parL parB; rw [h]; simp [hk, Option.filter]
theorem par_none (c : List UInt8) (h : pp (spl [] c) [] = none) : parL c = [] ∧ parB c = false := by
  unfold parL parB; rw [h]; simp [Option.filter]
def join : List (List UInt8) → List UInt8
  | [] => []
  | p :: ps => p ++ ps.flatMap (46 :: ·)
theorem spl_ne (c : List UInt8) : ∀ cur, spl cur c ≠ [] := by
  induction c with
  | nil => intro cur; simp [spl]
  | cons c cs ih => intro cur; unfold spl; split; simp; exact ih _
theorem join_cons (p : List UInt8) (ps : List (List UInt8)) (h : ps ≠ []) : join (p :: ps) = p ++ 46 :: join ps := by
  cases ps with
  | nil => exact absurd rfl h
  | cons q qs => simp [join]
theorem join_spl (c : List UInt8) : ∀ cur, join (spl cur c) = cur ++ c := by
  induction c with
  | nil => intro cur; simp [spl, join]
  | cons c cs ih =>
    intro cur
    unfold spl
    by_cases h : c = 46
    · rw [if_pos h, join_cons _ _ (spl_ne _ _), ih, h]; rfl
    · rw [if_neg h, ih]; simp
theorem spl_app (m rest : List UInt8) (h : (46 : UInt8) ∉ m) : ∀ cur, spl cur (m ++ rest) = spl (cur ++ m) rest := by
  induction m with
  | nil => intro cur; simp
  | cons c m ih =>
    intro cur
    rw [List.cons_append]
    conv => lhs; unfold spl
    rw [if_neg (fun h2 => h (by rw [h2]; simp)), ih (fun h2 => h (by simp [h2]))]
    simp
theorem digs_46 (f : Nat) : ∀ M, (46 : UInt8) ∉ digs f M := by
  induction f with
  | zero => intro M; simp [digs]
  | succ f ih =>
    intro M
    have hd : ∀ d : Nat, d < 10 → (46 : UInt8) ≠ UInt8.ofNat (48 + d) := fun d h h2 => by
      have h3 := congrArg UInt8.toNat h2
      rw [UInt8.toNat_ofNat'] at h3
      have h4 : (46 : UInt8).toNat = 46 := rfl
      omega
    unfold digs
    split
    · rename_i h
      simpa using hd M h
    · simp only [List.mem_append, List.mem_singleton, not_or]
      exact ⟨ih _, hd _ (Nat.mod_lt _ (by decide))⟩
theorem numS_46 (x : Int) : (46 : UInt8) ∉ numS x := by
  unfold numS
  split
  · simp only [List.mem_cons, not_or]
    exact ⟨by decide, digs_46 _ _⟩
  · exact digs_46 _ _
theorem spl_txtN (r : List Int) : ∀ cur, spl cur (txtN r) = cur :: r.map numS := by
  induction r with
  | nil => intro cur; simp [txtN, spl]
  | cons x r ih =>
    intro cur
    rw [show txtN (x :: r) = 46 :: (numS x ++ txtN r) from rfl]
    unfold spl
    rw [if_pos rfl, spl_app _ _ (numS_46 x), List.nil_append, ih]
    rfl
theorem spl_txt (a : Int) (r : List Int) : spl [] (txt (a :: r)) = (a :: r).map numS := by
  rw [txt, spl_app _ _ (numS_46 a), List.nil_append, spl_txtN]; rfl
theorem unB_numS (x : Int) (h : -9223372036854775808 ≤ x ∧ x ≤ 9223372036854775807) : unB (numS x) = true ∧ unN (numS x) = x := by
  have h1 : unB (numS x) = true := by unfold unB; rw [unV_numS x h]; exact decide_eq_true rfl
  exact ⟨h1, by unfold unN; rw [h1, if_pos rfl, unV_numS x h]⟩
theorem pp_map (r : List Int) : ∀ l : List Int, (∀ x ∈ r, -9223372036854775808 ≤ x ∧ x ≤ 9223372036854775807) → l.length + r.length ≤ 20 → pp (r.map numS) l = some (l ++ r) := by
  induction r with
  | nil => intro l _ _; simp [pp]
  | cons x r ih =>
    intro l hx hl
    simp only [List.length_cons] at hl
    obtain ⟨h1, h2⟩ := unB_numS x (hx x (by simp))
    rw [List.map_cons]
    unfold pp
    rw [if_neg (by rw [h1]; simp; omega), h2, ih _ (fun y hy => hx y (by simp [hy])) (by simp; omega)]
    simp
theorem pp_txt (l : List Int) (h : Ok l) : pp (spl [] (txt l)) [] = some l := by
  match l, h with
  | a :: r, h =>
    rw [spl_txt, pp_map _ _ (fun x hx => by have := ok_mem _ h x hx; omega) (by have := ((ok_iff _).1 h).2.1; simpa using this)]
    rfl
theorem pp_some (ps : List (List UInt8)) : ∀ l m : List Int, pp ps l = some m → m = l ++ ps.map unN ∧ ∀ p ∈ ps, unB p = true := by
  induction ps with
  | nil => intro l m h; cases h; simp
  | cons p ps ih =>
    intro l m h
    unfold pp at h
    by_cases hb : unB p = false ∨ l.length = 20
    · rw [if_pos hb] at h; cases h
    · rw [if_neg hb] at h
      obtain ⟨h1, h2⟩ := ih _ _ h
      refine ⟨by rw [h1]; simp, fun q hq => ?_⟩
      simp only [List.mem_cons] at hq
      rcases hq with rfl | hq
      · have : ¬ unB q = false := fun h => hb (Or.inl h)
        simpa using this
      · exact h2 q hq
theorem numS_unN (p : List UInt8) (h : unB p = true) : numS (unN p) = p := by
  unfold unN
  rw [h, if_pos rfl]
  unfold unB at h
  exact of_decide_eq_true h
theorem txt_join (ps : List (List UInt8)) (h : ∀ p ∈ ps, unB p = true) : txt (ps.map unN) = join ps := by
  cases ps with
  | nil => rfl
  | cons p ps =>
    rw [List.map_cons, txt, join, numS_unN p (h p (by simp))]
    congr 1
    have h2 : ∀ q ∈ ps, unB q = true := fun q hq => h q (by simp [hq])
    clear h
    induction ps with
    | nil => rfl
    | cons q qs ih =>
      rw [List.map_cons, show txtN (unN q :: qs.map unN) = (46 :: numS (unN q)) ++ txtN (qs.map unN) from rfl, numS_unN q (h2 q (by simp)), ih (fun r hr => h2 r (by simp [hr]))]
      rfl
theorem par_txt (t : List UInt8) (m : List Int) (h : pp (spl [] t) [] = some m) : txt m = t := by
  obtain ⟨h1, h2⟩ := pp_some _ _ _ h
  rw [h1, List.nil_append, txt_join _ h2, join_spl]; rfl
theorem par_iff (t : List UInt8) (l : List Int) : (parB t = true ∧ parL t = l) ↔ Ok l ∧ txt l = t := by
  constructor
  · intro ⟨h1, h2⟩
    cases h : pp (spl [] t) [] with
    | none => rw [(par_none t h).2] at h1; cases h1
    | some m =>
      by_cases hk : Ok m
      · rw [(par_some t m h hk).1] at h2
        subst h2
        exact ⟨hk, par_txt t _ h⟩
      · rw [(par_bad t m h hk).2] at h1; cases h1
  · rintro ⟨h1, rfl⟩
    have := par_some _ l (pp_txt l h1) h1
    exact ⟨this.2, this.1⟩
theorem par_false (t : List UInt8) (h : parB t = false) : parL t = [] := by
  cases h2 : pp (spl [] t) [] with
  | none => exact (par_none t h2).1
  | some m =>
    by_cases hk : Ok m
    · rw [(par_some t m h2 hk).2] at h; cases h
    · exact (par_bad t m h2 hk).1
theorem spl_end (cur : List UInt8) : spl cur [] = [cur] := rfl
theorem spl_dot (cur cs : List UInt8) (c : UInt8) (h : c = 46) : spl cur (c :: cs) = cur :: spl [] cs := if_pos h
theorem spl_chr (cur cs : List UInt8) (c : UInt8) (h : c ≠ 46) : spl cur (c :: cs) = spl (cur ++ [c]) cs := if_neg h

end Oid
end Go.Proofs.YtddlaafpianjbaaDoor
