/- Joined texts. -/
-- PACK: YtjpjfdmcijleoaaTreeS YtjpjfdmcijleoaaTreeCut YtjpjfdmcijleoaaTreeRS YtjpjfdmcijleoaaTreeKids YtjpjfdmcijleoaaTreeOf YtjpjfdmcijleoaaTreeArg YtjpjfdmcijleoaaRefTree YtjpjfdmcijleoaaTlvAwake
import Derived.Test.YtjpjfdmcijleoaaTr11
import Derived.Test.YtjpjfdmcijleoaaTr35
import Derived.Test.YtjpjfdmcijleoaaTr17
import Derived.Test.YtjpjfdmcijleoaaTr15
import Derived.OpenShut
import Derived.Lib.SmallJoins
import Derived.Test.YtjpjfdmcijleoaaTr23
import Derived.Deep.RegionHeld3
import Derived.Test.YtjpjfdmcijleoaaTr34
import Derived.BigQuiet
import Derived.BigGuardPart

/- Trees within trees, and trees put together: plain mathematics. -/
namespace Go.Proofs.Ytjpjfdmcijleoaa
namespace Tree
open Tlv
theorem tops_shift (g : F) : ∀ (i d : Nat), (g.tops (i + d)).map (· - (d : Int)) = g.tops i := by
  induction g with
  | nil => intro i d; rfl
  | prim c t d' nx ih =>
    intro i d
    show (((i + d : Nat) : Int) - (d : Int)) :: ((nx.tops (i + d + 1)).map _) = (i : Int) :: nx.tops (i + 1)
    rw [show i + d + 1 = i + 1 + d by omega, ih, show ((i + d : Nat) : Int) - (d : Int) = (i : Int) by omega]
  | cons c t ks nx _ ih =>
    intro i d
    show (((i + d : Nat) : Int) - (d : Int)) :: ((nx.tops (i + d + 1 + ks.cnt)).map _) = (i : Int) :: nx.tops (i + 1 + ks.cnt)
    rw [show i + d + 1 + ks.cnt = i + 1 + ks.cnt + d by omega, ih, show ((i + d : Nat) : Int) - (d : Int) = (i : Int) by omega]
theorem flat_down (g : F) : ∀ (i d : Nat), (g.flat (i + d)).map (shift (-(d : Int))) = g.flat i := by
  induction g with
  | nil => intro i d; rfl
  | prim c t d' nx ih =>
    intro i d
    show shift (-(d : Int)) ⟨c, t, false, d', []⟩ :: ((nx.flat (i + d + 1)).map _) = _ :: nx.flat (i + 1)
    rw [show i + d + 1 = i + 1 + d by omega, ih]
    rfl
  | cons c t ks nx ih1 ih2 =>
    intro i d
    show shift (-(d : Int)) ⟨c, t, true, ⟨#[]⟩, ks.tops (i + d + 1)⟩ :: ((ks.flat (i + d + 1) ++ nx.flat (i + d + 1 + ks.cnt)).map _) = _ :: (ks.flat (i + 1) ++ nx.flat (i + 1 + ks.cnt))
    rw [List.map_append, show i + d + 1 + ks.cnt = i + 1 + ks.cnt + d by omega, show i + d + 1 = i + 1 + d by omega, ih1, ih2]
    congr 1
    unfold shift
    have h9 := tops_shift ks (i + 1) d
    simp only [Int.sub_eq_add_neg] at h9
    rw [h9]
theorem flat_up (g : F) (n : Nat) : (g.flat 0).map (shift (n : Int)) = g.flat n := by
  have h := flat_down g 0 n
  rw [Nat.zero_add] at h
  rw [← h, List.map_map]
  conv => rhs; rw [← List.map_id (g.flat n)]
  apply List.map_congr_left
  intro x _
  show shift (n : Int) (shift (-(n : Int)) x) = x
  unfold shift
  obtain ⟨c, t, b, d, k⟩ := x
  simp only
  rw [List.map_map]
  have e : (fun x : Int => x + (n : Int)) ∘ (fun x : Int => x + -(n : Int)) = id := by
    funext a
    show a + -(n : Int) + (n : Int) = a
    omega
  rw [e, List.map_id]
/-- the part of a list of nodes from i to e, as a tree of its own -/
def subN (N : List Nd) (i e : Nat) : List Nd := ((N.take e).drop i).map (shift (-(i : Int)))
theorem at_sub {N : List Nd} {i : Nat} {s : F} (h : At N i (s.flat i)) : (N.take (i + s.cnt)).drop i = s.flat i := by
  apply List.ext_getElem?
  intro j
  rw [List.getElem?_drop, List.getElem?_take]
  by_cases hj : j < s.cnt
  · rw [if_pos (by omega), h j _ (List.getElem?_eq_getElem (by rw [F.flat_len]; exact hj))]
    exact (List.getElem?_eq_getElem _).symm
  · rw [if_neg (by omega), List.getElem?_eq_none (by rw [F.flat_len]; omega)]
theorem sub_flat {N : List Nd} {i : Nat} {s : F} (h : At N i (s.flat i)) : subN N i (i + s.cnt) = s.flat 0 := by
  unfold subN
  rw [at_sub h]
  have := flat_down s 0 i
  rw [Nat.zero_add] at this
  exact this
theorem sub_at (R : Int → ByteArray → Bool) (g : F) : ∀ (i j : Nat), okF R g → j < g.cnt → ∃ s, single s ∧ okF R s ∧ (∀ N, At N i (g.flat i) → At N (i + j) (s.flat (i + j))) ∧ s.deep ≤ g.deep := by
  induction g with
  | nil => intro i j _ h; exact absurd h (Nat.not_lt_zero _)
  | prim c t d nx ih =>
    intro i j hk h
    have hc : (F.prim c t d nx).cnt = 1 + nx.cnt := rfl
    have hd : (F.prim c t d nx).deep = max 1 nx.deep := rfl
    obtain ⟨a1, a2, a3, a4⟩ := hk
    cases j with
    | zero =>
      refine ⟨.prim c t d .nil, rfl, ⟨a1, a2, a3, trivial⟩, fun N hN => ?_, by show max 1 0 ≤ _; omega⟩
      exact At.cons hN.head (fun j x hx => by cases hx)
    | succ j =>
      obtain ⟨s, s1, s2, s3, s4⟩ := ih (i + 1) j a4 (by omega)
      refine ⟨s, s1, s2, fun N hN => ?_, by omega⟩
      rw [show i + (j + 1) = i + 1 + j by omega]
      exact s3 N (At.tail hN)
  | cons c t ks nx ih1 ih2 =>
    intro i j hk h
    have hc : (F.cons c t ks nx).cnt = 1 + ks.cnt + nx.cnt := rfl
    have hd : (F.cons c t ks nx).deep = max (ks.deep + 1) nx.deep := rfl
    obtain ⟨a1, a2, a3, a4, a5⟩ := hk
    cases j with
    | zero =>
      refine ⟨.cons c t ks .nil, rfl, ⟨a1, a2, a3, a4, trivial⟩, fun N hN => ?_, by show max (ks.deep + 1) 0 ≤ _; omega⟩
      have h9 : At N (i + 1) (ks.flat (i + 1) ++ nx.flat (i + 1 + ks.cnt)) := At.tail hN
      show At N (i + 0) (_ :: (ks.flat (i + 0 + 1) ++ []))
      rw [List.append_nil]
      exact At.cons hN.head h9.left
    | succ j =>
      by_cases hj : j < ks.cnt
      · obtain ⟨s, s1, s2, s3, s4⟩ := ih1 (i + 1) j a4 hj
        refine ⟨s, s1, s2, fun N hN => ?_, by omega⟩
        have h9 : At N (i + 1) (ks.flat (i + 1) ++ nx.flat (i + 1 + ks.cnt)) := At.tail hN
        rw [show i + (j + 1) = i + 1 + j by omega]
        exact s3 N h9.left
      · obtain ⟨s, s1, s2, s3, s4⟩ := ih2 (i + 1 + ks.cnt) (j - ks.cnt) a5 (by omega)
        refine ⟨s, s1, s2, fun N hN => ?_, by omega⟩
        have h9 : At N (i + 1) (ks.flat (i + 1) ++ nx.flat (i + 1 + ks.cnt)) := At.tail hN
        have h8 := h9.right
        rw [F.flat_len] at h8
        rw [show i + (j + 1) = i + 1 + ks.cnt + (j - ks.cnt) by omega]
        exact s3 N h8
theorem beh_single {R : Int → ByteArray → Bool} {N : List Nd} {s : F} {i f : Nat} (h1 : single s) (h2 : okF R s) (h3 : At N i (s.flat i)) (h4 : s.deep ≤ f) : behB R N f i = some (i + s.cnt) := by
  rw [beh_kids, ← single_tops h1 i]
  exact kids_of R N s f i h2 h3 h4
/-- a node of a tree that may be, with all that it is made of -/
theorem sub_of {R : Int → ByteArray → Bool} {N : List Nd} {g : F} (h : IsT R N g) (i : Nat) (hi : i < N.length) : ∃ s, behB R N 16 i = some (i + s.cnt) ∧ i + s.cnt ≤ N.length ∧ IsT R (subN N i (i + s.cnt)) s ∧ subN N i (i + s.cnt) = s.flat 0 := by
  obtain ⟨h1, h2, h3, h4, h5⟩ := h
  have hc : i < g.cnt := by rw [h3, F.flat_len] at hi; exact hi
  obtain ⟨s, s1, s2, s3, s4⟩ := sub_at R g 0 i h1 hc
  have hA : At N 0 (g.flat 0) := fun j x hx => by rw [Nat.zero_add, h3]; exact hx
  have h9 := s3 N hA
  rw [Nat.zero_add] at h9
  have hb := beh_single s1 s2 h9 (Nat.le_trans s4 h4)
  have hl := (beh_le hb).2
  refine ⟨s, hb, hl, ⟨s2, s1, sub_flat h9, Nat.le_trans s4 h4, ?_⟩, sub_flat h9⟩
  rw [sub_flat h9, F.flat_len]
  omega
/-- a forest's elements, one by one -/
def parts : F → List F
  | .nil => []
  | .prim c t d nx => .prim c t d .nil :: parts nx
  | .cons c t ks nx => .cons c t ks .nil :: parts nx
def join : List F → F
  | [] => .nil
  | g :: l => g.app (join l)
theorem join_parts (g : F) : join (parts g) = g := by
  induction g with
  | nil => rfl
  | prim c t d nx ih => show F.prim c t d (F.app .nil (join (parts nx))) = _; rw [ih]; rfl
  | cons c t ks nx _ ih => show F.cons c t ks (F.app .nil (join (parts nx))) = _; rw [ih]; rfl
theorem parts_len (g : F) (i : Nat) : (parts g).length = (g.tops i).length := by
  induction g generalizing i with
  | nil => rfl
  | prim c t d nx ih => show (parts nx).length + 1 = (nx.tops (i + 1)).length + 1; rw [ih]
  | cons c t ks nx _ ih => show (parts nx).length + 1 = (nx.tops (i + 1 + ks.cnt)).length + 1; rw [ih]
theorem parts_at (R : Int → ByteArray → Bool) (g : F) : ∀ (i j : Nat) (p : F), okF R g → (parts g)[j]? = some p → single p ∧ okF R p ∧ p.deep ≤ g.deep ∧ ∃ a : Nat, (g.tops i)[j]? = some (a : Int) ∧ ∀ N, At N i (g.flat i) → At N a (p.flat a) := by
  induction g with
  | nil => intro i j p _ h; cases h
  | prim c t d nx ih =>
    intro i j p hk h
    have hd : (F.prim c t d nx).deep = max 1 nx.deep := rfl
    obtain ⟨a1, a2, a3, a4⟩ := hk
    cases j with
    | zero =>
      cases h
      refine ⟨rfl, ⟨a1, a2, a3, trivial⟩, by show max 1 0 ≤ _; omega, i, rfl, fun N hN => At.cons hN.head (fun j x hx => by cases hx)⟩
    | succ j =>
      obtain ⟨s1, s2, s3, a, s4, s5⟩ := ih (i + 1) j p a4 h
      exact ⟨s1, s2, by omega, a, s4, fun N hN => s5 N (At.tail hN)⟩
  | cons c t ks nx _ ih =>
    intro i j p hk h
    have hd : (F.cons c t ks nx).deep = max (ks.deep + 1) nx.deep := rfl
    obtain ⟨a1, a2, a3, a4, a5⟩ := hk
    cases j with
    | zero =>
      cases h
      refine ⟨rfl, ⟨a1, a2, a3, a4, trivial⟩, by show max (ks.deep + 1) 0 ≤ _; omega, i, rfl, fun N hN => ?_⟩
      have h9 : At N (i + 1) (ks.flat (i + 1) ++ nx.flat (i + 1 + ks.cnt)) := At.tail hN
      show At N i (_ :: (ks.flat (i + 1) ++ []))
      rw [List.append_nil]
      exact At.cons hN.head h9.left
    | succ j =>
      obtain ⟨s1, s2, s3, a, s4, s5⟩ := ih (i + 1 + ks.cnt) j p a5 h
      refine ⟨s1, s2, by omega, a, s4, fun N hN => ?_⟩
      have h9 : At N (i + 1) (ks.flat (i + 1) ++ nx.flat (i + 1 + ks.cnt)) := At.tail hN
      have h8 := h9.right
      rw [F.flat_len] at h8
      exact s5 N h8
/-- a tree put under a node -/
def stepN (E N : List Nd) : List Nd := if N.length = 0 then E else addK E 0 [(E.length : Int)] ++ N.map (shift (E.length : Int))
def ofN (c t : Int) (Ns : List (List Nd)) : List Nd := Ns.foldl stepN [⟨c, t, true, ⟨#[]⟩, []⟩]
theorem single_cnt {g : F} (h : single g) : 0 < g.cnt := by
  cases g with
  | nil => exact absurd h (by intro h; exact h)
  | prim _ _ _ _ => show 0 < 1 + _; omega
  | cons _ _ _ _ => show 0 < 1 + _ + _; omega
theorem step_flat (c t : Nat) (ks g : F) (hg : single g) : stepN ((F.cons c t ks .nil).flat 0) (g.flat 0) = (F.cons c t (ks.app g) .nil).flat 0 := by
  have e0 : ∀ f : F, (F.cons c t f .nil).flat 0 = ⟨c, t, true, ⟨#[]⟩, f.tops 1⟩ :: f.flat 1 := fun f => by
    show (⟨(c : Int), (t : Int), true, ⟨#[]⟩, f.tops 1⟩ : Nd) :: (f.flat 1 ++ []) = _
    rw [List.append_nil]
  unfold stepN
  rw [if_neg (by rw [F.flat_len]; have := single_cnt hg; omega), flat_up, e0, e0]
  rw [List.length_cons, F.flat_len, F.tops_app, F.flat_app, single_tops hg]
  show (⟨(c : Int), (t : Int), true, ⟨#[]⟩, ks.tops 1 ++ [((ks.cnt + 1 : Nat) : Int)]⟩ : Nd) :: (ks.flat 1 ++ g.flat (ks.cnt + 1)) = _
  rw [show ks.cnt + 1 = 1 + ks.cnt by omega]
theorem of_flat (c t : Nat) (gs : List F) : ∀ (ks : F), (∀ g ∈ gs, single g) → (gs.map (fun g => g.flat 0)).foldl stepN ((F.cons c t ks .nil).flat 0) = (F.cons c t (ks.app (join gs)) .nil).flat 0 := by
  induction gs with
  | nil =>
    intro ks _
    show _ = (F.cons c t (ks.app .nil) .nil).flat 0
    rw [F.app_nil]
    rfl
  | cons g gs ih =>
    intro ks h
    show List.foldl stepN (stepN ((F.cons c t ks .nil).flat 0) (g.flat 0)) (gs.map _) = (F.cons c t (ks.app (g.app (join gs))) .nil).flat 0
    rw [step_flat c t ks g (h g (by simp)), ih _ (fun x hx => h x (by simp [hx])), F.app_assoc]
theorem ofN_flat (c t : Nat) (gs : List F) (h : ∀ g ∈ gs, single g) : ofN (c : Int) (t : Int) (gs.map (fun g => g.flat 0)) = (F.cons c t (join gs) .nil).flat 0 := of_flat c t gs .nil h
theorem fair_of {N : List Nd} {g : F} {R : Int → ByteArray → Bool} (h : IsT R N g) : Fair N := by
  have hw := wr_of h
  have hl := h.len
  have key : ∀ x ∈ N, ∀ a ∈ x.k, 0 ≤ a ∧ a < (N.length : Int) := fun x hx a ha => by
    obtain ⟨j, hj⟩ := List.mem_iff_getElem?.1 hx
    have := (hw.body j x hj).2 a ha
    omega
  refine ⟨hl, fun x hx => ?_, fun x hx a ha => by have := key x hx a ha; omega⟩
  obtain ⟨h1, h2, h3, h4, h5⟩ := h
  have hkl : ∀ (g : F) (i : Nat), (g.tops i).length ≤ g.cnt := by
    intro g
    induction g with
    | nil => intro i; exact Nat.le_refl _
    | prim c t d nx ih => intro i; show (nx.tops (i + 1)).length + 1 ≤ 1 + nx.cnt; have := ih (i + 1); omega
    | cons c t ks nx _ ih => intro i; show (nx.tops (i + 1 + ks.cnt)).length + 1 ≤ 1 + ks.cnt + nx.cnt; have := ih (i + 1 + ks.cnt); omega
  have hall : ∀ (g : F) (i : Nat), ∀ x ∈ g.flat i, x.k.length ≤ g.cnt := by
    intro g
    induction g with
    | nil => intro i x h; cases h
    | prim c t d nx ih =>
      intro i x h
      show _ ≤ 1 + nx.cnt
      rcases List.mem_cons.1 (show x ∈ (⟨c, t, false, d, []⟩ : Nd) :: nx.flat (i + 1) from h) with rfl | h
      · exact Nat.zero_le _
      · have := ih _ x h; omega
    | cons c t ks nx ih1 ih2 =>
      intro i x h
      show _ ≤ 1 + ks.cnt + nx.cnt
      rcases List.mem_cons.1 (show x ∈ (⟨c, t, true, ⟨#[]⟩, ks.tops (i + 1)⟩ : Nd) :: (ks.flat (i + 1) ++ nx.flat (i + 1 + ks.cnt)) from h) with rfl | h
      · have := hkl ks (i + 1)
        show (ks.tops (i + 1)).length ≤ _
        omega
      · rcases List.mem_append.1 h with h | h
        · have := ih1 _ x h; omega
        · have := ih2 _ x h; omega
  rw [h3] at hx hl
  have := hall g 0 x hx
  rw [F.flat_len] at hl
  omega
end Tree
end Go.Proofs.Ytjpjfdmcijleoaa

/- Package tree: cut, Sub. -/
namespace Go.Proofs.Ytjpjfdmcijleoaa
open Go.RowKit
namespace Tree
open Tlv Strs Rw
set_option maxRecDepth 100000 in
theorem size_node (W : World) : (Go.sizeOf 40).run Try.prog W = .ok 5 W := by
  obtain ⟨i, h1, h2, h3, h4⟩ := nd_make
  simp [Go.sizeOf, typeInfo, h1, h3]
set_option maxRecDepth 100000 in
theorem sub_slice {w : World} {b o c : Nat} {N : List Nd} (h : TreeS w (.slice (some ⟨b, o, none⟩) N.length c) N) (i e : Nat) (hie : i < e) (he : e ≤ N.length) :
    ∃ A', TreeS w (.slice A' (e - i) (c - i)) ((N.take e).drop i) ∧ ∀ W, (Instr.slice 23 (.slice (some ⟨b, o, none⟩) N.length c) (some (.int .i64 (i : Int))) (some (.int .i64 (e : Int))) none).run Try.prog W = .ok (.slice A' (e - i) (c - i)) W := by
  obtain ⟨ns, hns, rfl⟩ := h
  rw [List.length_map] at he
  obtain ⟨b2, o2, c2, hv, h1, h2, h3, h4⟩ := SlR.form hns.1 (by omega)
  rw [List.length_map] at hv ⊢
  obtain ⟨ha, -, hc⟩ := Value.slice.inj hv
  cases ha
  subst hc
  have ht' : Try.prog.underlying 23 = some (.slice (Try.prog.elem 23)) := by simp [Program.elem, Try.underlying23]
  have hel : Try.prog.elem 23 = 40 := by simp [Program.elem, Try.underlying23]
  refine ⟨some ⟨b, o + i * 5, none⟩, ⟨(ns.take e).drop i, ⟨⟨by rw [flat_nc_len], some ⟨b, o + i * 5, none⟩, c - i, ?_, ?_, by omega, .inr ⟨b, o + i * 5, rfl, h3, fun q u hu => ?_⟩⟩, fun x hx => hns.2 x (List.mem_of_mem_take (List.mem_of_mem_drop hx))⟩, by rw [List.map_drop, List.map_take]⟩, fun W => ?_⟩
  · rw [List.length_drop, List.length_take, Nat.min_eq_left he]
  · rw [List.length_drop, List.length_take, Nat.min_eq_left he]; omega
  · have hq : q < (e - i) * 5 := by
      have := (List.getElem?_eq_some_iff.1 hu).1
      rw [flat_nc_len, List.length_drop, List.length_take, Nat.min_eq_left he] at this
      exact this
    rw [Nat.add_assoc]
    refine h4 (i * 5 + q) u ?_
    have e1 : ns.flatMap nc = (ns.take i).flatMap nc ++ (((ns.take e).drop i).flatMap nc ++ (ns.drop e).flatMap nc) := by
      rw [← List.flatMap_append, ← List.flatMap_append]
      congr 1
      have h5 : ns.take e = ns.take i ++ (ns.take e).drop i := by
        conv => lhs; rw [← List.take_append_drop i (ns.take e)]
        rw [List.take_take, Nat.min_eq_left (by omega)]
      rw [← List.append_assoc, ← h5, List.take_append_drop]
    rw [e1, List.getElem?_append_right (by rw [flat_nc_len, List.length_take]; omega), flat_nc_len, List.length_take, Nat.min_eq_left (by omega), Nat.add_sub_cancel_left, List.getElem?_append_left (by rw [flat_nc_len, List.length_drop, List.length_take, Nat.min_eq_left he]; exact hq)]
    exact hu
  · rw [run_slice_lh W _ _ _ _ ht' .i64 .i64 _ _ (by omega) (by omega) (by omega), hel, size_node]
    simp only [Result.andThen, sliced, Int.toNat_natCast]
    rw [if_neg (by omega)]
    by_cases hj : i = 0
    · subst hj; simp [Addr.add]
    · have hj2 : ¬ i * 5 = 0 := by omega
      simp [Addr.add, hj2]
/-- a call that makes a tree in rows of its own, out of one that is read -/
def MkO (f : Nat) (N : List Nd) (args : Value → Array Value) (M : List Nd) : Prop := ∀ w v, TreeS w v N → Calls Try.prog f (args v) w fun e w' => ∃ v', e = .returned v' ∧ TreeO w' w.heap.size v' M ∧ Since w w'
theorem treeO_step {w w1 w2 : World} {v : Value} {M : List Nd} (h : TreeO w2 w1.heap.size v M) (hs : Since w w1) : TreeO w2 w.heap.size v M := h.base (Below.size hs)
set_option maxRecDepth 100000 in
set_option maxHeartbeats 2000000 in
theorem cut_core (N : List Nd) (hn1 : N.length ≤ 1000) (i e : Nat) (hie : i < e) (he : e ≤ N.length) (c1 : RdT 26 N (fun v => #[v, .int .i64 (i : Int), .int .i64 1]) (.int .i64 (e : Int))) (c2 : ∀ w v, TreeS w v ((N.take e).drop i) → Calls Try.prog 33 #[v, .int .i64 (-(i : Int))] w fun e' w' => ∃ v', e' = .returned v' ∧ TreeO w' w.heap.size v' (subN N i e) ∧ Since w w') :
    MkO 30 N (fun v => #[v, .int .i64 (i : Int)]) (subN N i e) := by
  intro w v h
  have HT := Lib.hid h
  obtain ⟨b, o, c, rfl, -, -, b1, b2⟩ := treeform h (by omega)
  obtain ⟨A', hA, hrun⟩ := sub_slice h i e hie he
  have HA := Lib.hid hA
  have hw : IntKind.i64.wrap (-(i : Int)) = -(i : Int) := IntWalk.i64_in _ (by omega)
  clear h b2 hA
  go_enter Try.func30, Try.ntmps30
  go_wp2_with fail
  refine c1.calls0 HT.out ?_
  intro w1 h1
  have HS := Lib.hid h1
  have HA1 := Lib.hid (HA.out.since h1)
  clear h1
  go_wp2_with fail
  refine (c2 _ _ HA1.out).mono ?_
  rintro _ w2 ⟨v2, rfl, h2, h3⟩
  have HO := Lib.hid (treeO_step h2 HS.out)
  replace HS := Lib.hid (HS.out.step h3)
  clear h2 h3
  go_wp2_with fail
  go_ret
  exact ⟨_, rfl, HO.out, HS.out⟩
theorem fair_sub {N : List Nd} (h : Fair N) (i e : Nat) : Fair ((N.take e).drop i) :=
  ⟨by have := h.len; rw [List.length_drop, List.length_take]; omega, fun x hx => h.kids x (List.mem_of_mem_take (List.mem_of_mem_drop hx)), fun x hx => h.nums x (List.mem_of_mem_take (List.mem_of_mem_drop hx))⟩
theorem cut_o {N : List Nd} {g : F} (hg : IsT rightB N g) (hs : Small N) (i e : Nat) (hi : i < N.length) (he : behB rightB N 16 i = some e) : MkO 30 N (fun v => #[v, .int .i64 (i : Int)]) (subN N i e) := by
  have hle := beh_le he
  have hn := hg.len
  refine cut_core N hn i e hle.1 hle.2 (fun w v h => ?_) (fun w v h => ?_)
  · have h9 := end_r N hs 16 (Nat.le_refl _) w v i 1 h (by omega) rfl
    rw [he] at h9
    exact h9
  · exact moved_o _ (fair_sub (fair_of hg) i e) (by rw [List.length_drop, List.length_take]; omega) (-(i : Int)) (by omega) w v h
def MkE (f : Nat) (N : List Nd) (args : Value → Array Value) (M : List Nd) : Prop := ∀ w v, TreeS w v N → Calls Try.prog f (args v) w fun e w' => ∃ v', e = .returned v' ∧ TreeS w' v' M ∧ Since w w'
set_option maxRecDepth 100000 in
theorem sub_neg (N : List Nd) (i : Int) (t1 : decide (i < 0) = true) : MkE 16 N (fun v => #[v, .int .i64 i]) [] := by
  intro w v h
  have HT := Lib.hid h
  have HS := Lib.hid (Since.refl w)
  obtain ⟨A, c, rfl, -, -⟩ := h.slice
  clear h
  go_enter Try.func16, Try.ntmps16
  go_wp2_with fail
  go_ret
  exact ⟨_, rfl, TreeS.nil _, HS.out⟩
set_option maxRecDepth 100000 in
theorem sub_far (N : List Nd) (i : Int) (t1 : decide (i < 0) = false) (t2 : decide ((N.length : Int) ≤ i) = true) : MkE 16 N (fun v => #[v, .int .i64 i]) [] := by
  intro w v h
  have HT := Lib.hid h
  have HS := Lib.hid (Since.refl w)
  obtain ⟨A, c, rfl, -, -⟩ := h.slice
  clear h
  go_enter Try.func16, Try.ntmps16
  go_wp2_with fail
  go_ret
  exact ⟨_, rfl, TreeS.nil _, HS.out⟩
set_option maxRecDepth 100000 in
theorem sub_not (N : List Nd) (i : Int) (t1 : decide (i < 0) = false) (t2 : decide ((N.length : Int) ≤ i) = false) (c1 : RdT 10 N (fun v => #[v]) (.bool false)) : MkE 16 N (fun v => #[v, .int .i64 i]) [] := by
  intro w v h
  have HT := Lib.hid h
  have HS := Lib.hid (Since.refl w)
  obtain ⟨A, c, rfl, -, -⟩ := h.slice
  clear h
  go_enter Try.func16, Try.ntmps16
  go_wp2_with fail
  refine c1.calls0 HT.out ?_
  intro w1 h1
  replace HS := Lib.hid (HS.out.step h1)
  clear h1
  go_wp2_with fail
  go_ret
  exact ⟨_, rfl, TreeS.nil _, HS.out⟩
set_option maxRecDepth 100000 in
theorem sub_yes (N : List Nd) (i : Int) (M : List Nd) (t1 : decide (i < 0) = false) (t2 : decide ((N.length : Int) ≤ i) = false) (c1 : RdT 10 N (fun v => #[v]) (.bool true)) (c2 : MkO 30 N (fun v => #[v, .int .i64 i]) M) : MkE 16 N (fun v => #[v, .int .i64 i]) M := by
  intro w v h
  have HT := Lib.hid h
  have HS := Lib.hid (Since.refl w)
  obtain ⟨A, c, rfl, -, -⟩ := h.slice
  clear h
  go_enter Try.func16, Try.ntmps16
  go_wp2_with fail
  refine c1.calls0 HT.out ?_
  intro w1 h1
  replace HS := Lib.hid (HS.out.step h1)
  replace HT := Lib.hid (HT.out.since h1)
  clear h1
  go_wp2_with fail
  refine (c2 _ _ HT.out).mono ?_
  rintro _ w2 ⟨v2, rfl, h2, h3⟩
  have HO := Lib.hid h2.read
  replace HS := Lib.hid (HS.out.step h3)
  clear h2 h3
  go_wp2_with fail
  go_ret
  exact ⟨_, rfl, HO.out, HS.out⟩
/-- what Sub makes -/
def subV (N : List Nd) (i : Int) : List Nd := if rigB rightB N = true ∧ 0 ≤ i ∧ i < (N.length : Int) then (match behB rightB N 16 i.toNat with | some e => subN N i.toNat e | none => []) else []
theorem sub_mk (N : List Nd) (hs : Small N) (i : Int) : MkE 16 N (fun v => #[v, .int .i64 i]) (subV N i) := by
  have c1 := rig_rd N hs
  unfold subV
  by_cases h1 : i < 0
  · rw [if_neg (by omega)]; exact sub_neg N i (decide_eq_true h1)
  by_cases h2 : (N.length : Int) ≤ i
  · rw [if_neg (by omega)]; exact sub_far N i (decide_eq_false h1) (decide_eq_true h2)
  cases hr : rigB rightB N with
  | false => rw [hr] at c1; rw [if_neg (by simp)]; exact sub_not N i (decide_eq_false h1) (decide_eq_false h2) c1
  | true =>
    rw [hr] at c1
    rw [if_pos ⟨rfl, by omega, by omega⟩]
    obtain ⟨g, hg⟩ := right_is hr
    obtain ⟨j, rfl⟩ := Int.eq_ofNat_of_zero_le (show 0 ≤ i by omega)
    obtain ⟨s, s1, s2, s3, s4⟩ := sub_of hg j (by omega)
    rw [Int.toNat_natCast, s1]
    exact sub_yes N _ _ (decide_eq_false h1) (decide_eq_false h2) c1 (cut_o hg hs j _ (by omega) s1)
end Tree
end Go.Proofs.Ytjpjfdmcijleoaa

/- The reference of trees: moved, Sub. -/
namespace Go.Proofs.Ytjpjfdmcijleoaa
open Go.RowKit
namespace Tree
open Tlv Strs Rw
theorem own_base {W : World} {base base' : Nat} {e : TypeId} {k : Nat} {v : Value} {n : Nat} {xs : List Value} (h : W.ownsRow base e k v n xs) (hb : base' ≤ base) : W.ownsRow base' e k v n xs := by
  obtain ⟨h1, h2⟩ := h
  refine ⟨h1, ?_⟩
  rcases h2 with h2 | ⟨g, cap, cur, hv, hb2, hr⟩
  · exact .inl h2
  · exact .inr ⟨g, cap, cur, hv, Nat.le_trans hb hb2, hr⟩
/-- a row that has been made since -/
theorem rows_fresh {W W' : World} {base : Nat} {rs : List Row} (h : Rw.Rows W base rs) (hs : Since W W') (r : Row) (hr : r.own W' W.heap.size) (hb : base ≤ W.heap.size) : Rw.Rows W' base (r :: rs) := by
  have h2 := h.since hs
  refine ⟨fun x hx => ?_, List.pairwise_cons.2 ⟨fun x hx g h3 h4 => ?_, h.apart⟩⟩
  · rcases List.mem_cons.1 hx with rfl | hx
    · exact own_base hr hb
    · exact h2.own x hx
  · have h5 := (World.ownsRow.lt hr g h3).1
    have h6 := (World.ownsRow.lt (h.own x hx) g h4).2
    omega
theorem rows_last {w : World} {base : Nat} {rs : List Row} {r : Row} (h : Rw.Rows w base (r :: rs)) : Rw.Rows w base (rs ++ [r]) := by
  obtain ⟨ho, ha⟩ := h
  refine ⟨fun x hx => ho x (by
    rcases List.mem_append.1 hx with hx | hx
    · exact List.mem_cons_of_mem _ hx
    · rw [List.mem_singleton.1 hx]; exact List.mem_cons_self), ?_⟩
  rw [List.pairwise_append]
  exact ⟨(List.pairwise_cons.1 ha).2, by simp, fun a h1 b h2 => by rw [List.mem_singleton.1 h2]; exact ((List.pairwise_cons.1 ha).1 a h1).symm⟩
theorem own_lone {W' : World} {B g : Nat} {t : TypeId} {C : List Value} (hb : B ≤ g) (hg : W'.heap[g]? = some (.cells C.toArray t (0, 0))) : (RwL.lone t g C).own W' B :=
  ⟨by simp [RwL.lone], .inr ⟨g, 1, C.toArray, rfl, hb, hg, Nat.le_refl _, by decide, by simp [RwL.lone], by simp [RwL.lone]⟩⟩
set_option maxRecDepth 100000 in
set_option maxHeartbeats 4000000 in
theorem rmoved_own (ks : List Int) (n : Int) (hl : ks.length ≤ 100000) (hn : -1000000 ≤ n ∧ n ≤ 1000000) (hk : ∀ a ∈ ks, -1000000 ≤ a ∧ a ≤ 1000000) (w : World) (x : Value) (hx : IntsS w x ks) : Calls Try.prog 31 #[x, .int .i64 n] w fun e w' => ∃ A c, e = .returned (.slice A ks.length c) ∧ w'.ownsRow w.heap.size 3 1 (.slice A ks.length c) ks.length ((ks.map (· + n)).map (Value.int .i64)) ∧ Since w w' := by
  have HX := Lib.hid hx
  have HK := Lib.hid hk
  have HS := Lib.hid (Since.refl w)
  obtain ⟨A, q, rfl, -, -⟩ := hx.slice
  have hle := IntsS.le hx
  clear hx hk
  go_enter Try.func31, Try.ntmps31
  go_wp2_with fail
  go_loopw [5, 6] (fun V i wr => ∃ a : Nat, i = .int .i64 (a : Int) ∧ a ≤ ks.length ∧ Hid (wr.ownsRow w.heap.size 3 1 V a (((ks.take a).map (· + n)).map (Value.int .i64))) ∧ Hid (Since w wr)) (fun _ i _ => ks.length - (intOf i).toNat)
  case atStart => exact ⟨0, rfl, Nat.zero_le _, Lib.hid (World.ownsRow_nil _ _ _ _), HS⟩
  case round =>
    clear HS
    obtain ⟨a, rfl, ha, HO, HS⟩ := hrel
    by_cases hlt : a < ks.length
    · obtain ⟨bk, ok, dk, hv, -, -, l3, l4⟩ := HX.out.form (by omega)
      obtain ⟨rfl, -, rfl⟩ := Value.slice.inj hv
      clear hv
      obtain ⟨y, hy⟩ : ∃ y, ks[a]? = some y := ⟨_, List.getElem?_eq_getElem hlt⟩
      have c9 := (Below.cell HS.out (p := ⟨bk, ok + a, none⟩) l3).trans (l4 a hlt)
      rw [show ks.getD a 0 = y by simp [List.getD, hy]] at c9
      have hyb := HK.out y (List.mem_iff_getElem?.2 ⟨a, hy⟩)
      have hw : IntKind.i64.wrap (y + n) = y + n := IntWalk.i64_in _ (by omega)
      have etk : ((ks.take a).map (· + n)).map (Value.int .i64) ++ [Value.int .i64 (y + n)] = ((ks.take (a + 1)).map (· + n)).map (Value.int .i64) := by
        obtain ⟨g1, g2⟩ := List.getElem?_eq_some_iff.1 hy
        rw [List.take_succ_eq_append_getElem g1, g2, List.map_append, List.map_append]
        rfl
      have HE := Lib.hid etk
      have HB := Lib.hid (show a ≤ 1099511627776 by omega)
      clear hy l4 etk
      go_wp2_with (at_builtin; refine app_one_k elemT rfl _ _ (by rfl) w _ _ a _ (by rfl) HO.out HS.out (.int .i64 (y + n)) (by rfl) rfl HB.out (by decide) ?_; intro V2 W2 h2 h3 _; rw [HE.out] at h2)
      have HO2 := Lib.hid h2
      have HS2 := Lib.hid h3
      clear h2 h3
      go_wp2_with fail
      go_roundw
      case rel => exact ⟨a + 1, by go_num, by omega, HO2, HS2⟩
      case measure => (simp [intOf] <;> omega)
    · obtain rfl : a = ks.length := by omega
      have hO := HO.out
      rw [List.take_length] at hO
      obtain ⟨A2, c2, hv2⟩ := own_any hO
      subst hv2
      have HO2 := Lib.hid hO
      clear hO
      go_wp2_with fail
      go_ret
      exact ⟨A2, c2, rfl, HO2.out, HS.out⟩
set_option maxRecDepth 100000 in
theorem rsub_not (N : List Nd) (i : Int) (c1 : RdT 11 N (fun v => #[v]) (.bool false)) : MkE 17 N (fun v => #[v, .int .i64 i]) [] := by
  intro w v h
  have HT := Lib.hid h
  have HS := Lib.hid (Since.refl w)
  obtain ⟨A, c, rfl, -, -⟩ := h.slice
  clear h
  go_enter Try.func17, Try.ntmps17
  go_wp2_with fail
  refine c1.calls0 HT.out ?_
  intro w1 h1
  replace HS := Lib.hid (HS.out.step h1)
  clear h1
  go_wp2_with fail
  go_ret
  exact ⟨_, rfl, TreeS.nil _, HS.out⟩
set_option maxRecDepth 100000 in
theorem rsub_neg (N : List Nd) (i : Int) (t1 : decide (i < 0) = true) (c1 : RdT 11 N (fun v => #[v]) (.bool true)) : MkE 17 N (fun v => #[v, .int .i64 i]) [] := by
  intro w v h
  have HT := Lib.hid h
  have HS := Lib.hid (Since.refl w)
  obtain ⟨A, c, rfl, -, -⟩ := h.slice
  clear h
  go_enter Try.func17, Try.ntmps17
  go_wp2_with fail
  refine c1.calls0 HT.out ?_
  intro w1 h1
  replace HS := Lib.hid (HS.out.step h1)
  clear h1
  go_wp2_with fail
  go_ret
  exact ⟨_, rfl, TreeS.nil _, HS.out⟩
set_option maxRecDepth 100000 in
theorem rsub_far (N : List Nd) (i : Int) (t1 : decide (i < 0) = false) (t2 : decide ((N.length : Int) ≤ i) = true) (c1 : RdT 11 N (fun v => #[v]) (.bool true)) : MkE 17 N (fun v => #[v, .int .i64 i]) [] := by
  intro w v h
  have HT := Lib.hid h
  have HS := Lib.hid (Since.refl w)
  obtain ⟨A, c, rfl, -, -⟩ := h.slice
  clear h
  go_enter Try.func17, Try.ntmps17
  go_wp2_with fail
  refine c1.calls0 HT.out ?_
  intro w1 h1
  replace HS := Lib.hid (HS.out.step h1)
  clear h1
  go_wp2_with fail
  go_ret
  exact ⟨_, rfl, TreeS.nil _, HS.out⟩
set_option maxRecDepth 100000 in
set_option maxHeartbeats 8000000 in
theorem rsub_yes (N : List Nd) (hF : Fair N) (i e : Nat) (hie : i < e) (he : e ≤ N.length) (c1 : RdT 11 N (fun v => #[v]) (.bool true)) (c2 : RdT 27 N (fun v => #[v, .int .i64 (i : Int), .int .i64 1]) (.int .i64 (e : Int))) : MkE 17 N (fun v => #[v, .int .i64 (i : Int)]) (subN N i e) := by
  intro w v h
  have HT := Lib.hid h
  have HS := Lib.hid (Since.refl w)
  obtain ⟨b, o, c, rfl, -, -, b1, b2⟩ := treeform h (by omega)
  have B1 := Lib.hid b1
  have B2 := Lib.hid b2
  have HFF := Lib.hid hF
  have hn := hF.len
  have t1 : decide ((i : Int) < 0) = false := decide_eq_false (by omega)
  have t2 : decide ((N.length : Int) ≤ (i : Int)) = false := decide_eq_false (by omega)
  have t3 : decide (N.length ≤ i) = false := decide_eq_false (by omega)
  clear h b1 b2 hF
  go_enter Try.func17, Try.ntmps17
  go_wp2_with fail
  refine c1.calls0 HT.out ?_
  intro w1 h1
  replace HS := Lib.hid (HS.out.step h1)
  replace HT := Lib.hid (HT.out.since h1)
  clear h1
  go_wp2_with fail
  refine c2.calls0 HT.out ?_
  intro w2 h2
  replace HS := Lib.hid (HS.out.step h2)
  clear h2 HT c1 c2 t1 t2 t3
  go_wp2_with fail
  go_loopw [5, 7] (fun V j wr => ∃ (a : Nat) (D : List (Nd × Value)), j = .int .i64 (a : Int) ∧ i ≤ a ∧ a ≤ e ∧ Hid (D.length = a - i) ∧ Hid (D.map Prod.fst = ((N.take a).drop i).map (shift (-(i : Int)))) ∧ Hid (Rw.Rows wr w.heap.size (⟨40, 5, V, D.length, D.flatMap nc⟩ :: D.map kr)) ∧ Hid (Since w wr)) (fun _ j _ => e - (intOf j).toNat)
  case atStart => exact ⟨i, [], rfl, Nat.le_refl _, by omega, Lib.hid (by simp), Lib.hid (by rw [List.drop_of_length_le (by rw [List.length_take]; omega)]; rfl), Lib.hid ⟨fun r hr => by rw [List.mem_singleton.1 hr]; exact World.ownsRow_nil _ _ _ _, by simp⟩, HS⟩
  case round =>
    clear HS
    obtain ⟨a, D, rfl, hia, hae, hD, hDm, HR, HS⟩ := hrel
    by_cases hlt : a < e
    · have haN : a < N.length := by omega
      obtain ⟨y, hy⟩ : ∃ y, N[a]? = some y := ⟨_, List.getElem?_eq_getElem haN⟩
      have hym := List.mem_iff_getElem?.2 ⟨a, hy⟩
      obtain ⟨A, q, m0, m1, m2, m3, m4, m5⟩ := B2.out a y hy
      have n0 := (Below.cell HS.out (p := ⟨b, o + a * 5, none⟩) B1.out).trans m0
      have n1 := (Below.cell HS.out (p := ⟨b, o + a * 5 + 1, none⟩) B1.out).trans m1
      have n2 := (Below.cell HS.out (p := ⟨b, o + a * 5 + 2, none⟩) B1.out).trans m2
      have n3 := (Below.cell HS.out (p := ⟨b, o + a * 5 + 3, none⟩) B1.out).trans m3
      have n4 := (Below.cell HS.out (p := ⟨b, o + a * 5 + 4, none⟩) B1.out).trans m4
      have x1 : (a : Int) < (N.length : Int) := by omega
      have x2 : (0 : Int) ≤ (a : Int) := by omega
      have c5 := rmoved_own y.k (-(i : Int)) (HFF.out.kids y hym) (by omega) (HFF.out.nums y hym)
      have r1 : (wr.alloc (.cells #[.int .i64 0, .int .i64 0, .bool false, .string ⟨#[]⟩, .slice none 0 0] 40)).heap[wr.heap.size]? = some (.cells #[.int .i64 0, .int .i64 0, .bool false, .string ⟨#[]⟩, .slice none 0 0] 40 (0, 0)) := heap_alloc_new wr _
      have hb := Lib.hid (hb_row (K := KT) (C' := #[.int .i64 y.c, .int .i64 y.t, .bool y.b, .string y.d, .slice A y.k.length q]) ((Since.refl wr).alloc _) (Nat.le_refl _) trivial r1)
      obtain ⟨_, y0, y1, y2, y3, y4⟩ := hb5 hb
      have hwr : w.heap.size ≤ wr.heap.size := Below.size HS.out
      have hrow3 := Lib.hid (rows_fresh HR.out hb.out.since (RwL.lone 40 wr.heap.size [.int .i64 y.c, .int .i64 y.t, .bool y.b, .string y.d, .slice A y.k.length q]) (own_lone (Nat.le_refl _) (setRow_heap _ _ _ _ _ _ r1)) hwr)
      have HS3 := Lib.hid (HS.out.step hb.out.since)
      have K5 := Lib.hid ((m5.since HS.out).since hb.out.since)
      have hw : IntKind.i64.wrap (-(i : Int)) = -(i : Int) := IntWalk.i64_in _ (by omega)
      have hsplit : ((N.take (a + 1)).drop i).map (shift (-(i : Int))) = ((N.take a).drop i).map (shift (-(i : Int))) ++ [shift (-(i : Int)) y] := by
        obtain ⟨g1, g2⟩ := List.getElem?_eq_some_iff.1 hy
        rw [List.take_succ_eq_append_getElem g1, g2, List.drop_append_of_le_length (by rw [List.length_take]; omega), List.map_append]
        rfl
      have HSP := Lib.hid hsplit
      clear m0 m1 m2 m3 m4 m5 hy hym hsplit HR HS
      go_wp2_with (refine wpList_store_row rfl 40 _ _ rfl wr.heap.size #[.int .i64 y.c, .int .i64 y.t, .bool y.b, .string y.d, .slice A y.k.length q] (by rfl) (by rfl) _ _ r1 (node_info _ _ _ _ _ _ _) rfl (node_one _ _ _ _ _ _ _) ?_)
      clear n0 n1 n2 n3 n4 y0 y1 y2 y3 y4 r1 hb
      generalize World.setRow _ _ _ = W3 at hrow3 HS3 K5 ⊢
      refine (c5 W3 _ K5.out).mono ?_
      rintro _ w4 ⟨A2, q2, rfl, ho2, h4⟩
      have hrow4 := rows_fresh hrow3.out h4 ⟨3, 1, .slice A2 y.k.length q2, y.k.length, (y.k.map (· + -(i : Int))).map (Value.int .i64)⟩ ho2 (Below.size HS3.out)
      have HR4 := Lib.hid (show Rw.Rows w4 w.heap.size ([⟨3, 1, .slice A2 y.k.length q2, y.k.length, (y.k.map (· + -(i : Int))).map (Value.int .i64)⟩] ++ ⟨40, 5, .slice (some ⟨wr.heap.size, 0, none⟩) 1 1, 1, [.int .i64 y.c, .int .i64 y.t, .bool y.b, .string y.d, .slice A y.k.length q]⟩ :: (⟨40, 5, _, D.length, D.flatMap nc⟩ :: D.map kr)) from hrow4)
      have HS4 := Lib.hid (HS3.out.step h4)
      clear ho2 h4 hrow4 hrow3 HS3 K5 c5
      have tok1 : True := trivial
      have HB1 := Lib.hid (show D.length + 1 ≤ maxLen by have := hD.out; unfold maxLen; omega)
      have HB2 := Lib.hid (show (D.length + 1) * 64 ≤ 140737488355328 by have := hD.out; omega)
      go_wp2_with (first
        | (refine RwL.store_rows rfl 38 _ _ (by rfl) intl_one w w4 _ _ 40 5 wr.heap.size 1 1 _ HR4.out HS4.out 4 (by decide) (by rfl) (.slice A2 y.k.length q2) (by rfl) rfl ?_; intro w5 HQ5 HT5 hk5; have hbx := HQ5.own (RwL.lone 40 wr.heap.size [.int .i64 y.c, .int .i64 y.t, .bool y.b, .string y.d, .slice A2 y.k.length q2]) (by simp [RwL.lone]); have y0 := (RwL.lone_cell hbx 0 _ rfl).1; have y1 := (RwL.lone_cell hbx 1 _ rfl).1; have y2 := (RwL.lone_cell hbx 2 _ rfl).1; have y3 := (RwL.lone_cell hbx 3 _ rfl).1; have y4 := (RwL.lone_cell hbx 4 _ rfl).1; have HR5 := Lib.hid HQ5; have HS5 := Lib.hid HT5; clear HQ5 HT5 hk5 hbx)
        | (at_builtin; have _t := tok1; refine app_rows elemN rfl _ _ (by rfl) w w5 _ rfl ([⟨3, 1, .slice A2 y.k.length q2, y.k.length, (y.k.map (· + -(i : Int))).map (Value.int .i64)⟩, RwL.lone 40 wr.heap.size [.int .i64 y.c, .int .i64 y.t, .bool y.b, .string y.d, .slice A2 y.k.length q2]] : List Row) (D.map kr) _ D.length (D.flatMap nc) (by rfl) HR5.out HS5.out #[.int .i64 y.c, .int .i64 y.t, .bool y.b, .string y.d, .slice A2 y.k.length q2] 1 1 (by rfl) rfl (by intro u hu; simp at hu; rcases hu with rfl | rfl | rfl | rfl | rfl <;> rfl) HB1.out HB2.out ?_; intro V2 w6 HQ6 HT6 hk6; clear tok1))
      have e9 : kr (shift (-(i : Int)) y, .slice A2 y.k.length q2) = ⟨3, 1, .slice A2 y.k.length q2, y.k.length, (y.k.map (· + -(i : Int))).map (Value.int .i64)⟩ := by
        unfold kr shift
        simp
      have h7 := rows_last (rs := RwL.lone 40 wr.heap.size [.int .i64 y.c, .int .i64 y.t, .bool y.b, .string y.d, .slice A2 y.k.length q2] :: ⟨40, 5, V2, D.length + 1, D.flatMap nc ++ nc (shift (-(i : Int)) y, .slice A2 y.k.length q2)⟩ :: D.map kr) HQ6
      have h8 := RwL.rows_drop h7
      have HR9 : Hid (Rw.Rows w6 w.heap.size (⟨40, 5, V2, (D ++ [(shift (-(i : Int)) y, Value.slice A2 y.k.length q2)]).length, (D ++ [(shift (-(i : Int)) y, Value.slice A2 y.k.length q2)]).flatMap nc⟩ :: (D ++ [(shift (-(i : Int)) y, Value.slice A2 y.k.length q2)]).map kr)) := Lib.hid (by
        rw [List.length_append, List.flatMap_append, List.map_append, List.map_cons, List.map_nil, e9, List.flatMap_cons, List.flatMap_nil, List.append_nil]
        exact h8)
      have HD9 : Hid ((D ++ [(shift (-(i : Int)) y, Value.slice A2 y.k.length q2)]).map Prod.fst = ((N.take (a + 1)).drop i).map (shift (-(i : Int)))) := Lib.hid (by
        rw [HSP.out, List.map_append, hDm.out]
        rfl)
      have HL9 : Hid ((D ++ [(shift (-(i : Int)) y, Value.slice A2 y.k.length q2)]).length = a + 1 - i) := Lib.hid (by rw [List.length_append, hD.out]; show a - i + 1 = _; omega)
      have HS9 := Lib.hid HT6
      clear h7 h8 HQ6 HT6 hk6 e9
      go_roundw
      case rel => exact ⟨a + 1, _, by go_num, by omega, by omega, HL9, HD9, HR9, HS9⟩
      case measure => (simp [intOf] <;> omega)
    · obtain rfl : a = e := by omega
      have hT : TreeS wr _ (subN N i a) := ⟨D, ⟨SlR.own (HR.out.own _ List.mem_cons_self), fun x hx => by
        have h9 := HR.out.own (kr x) (List.mem_cons_of_mem _ (List.mem_map.2 ⟨x, hx, rfl⟩))
        have h8 : SlR wr 1 x.2 x.1.k.length (x.1.k.map (Value.int .i64)) := SlR.own h9
        exact h8⟩, hDm.out⟩
      have HT := Lib.hid hT
      clear hT
      go_wp2_with fail
      go_ret
      exact ⟨_, rfl, HT.out, HS.out⟩
theorem rsub_mk (N : List Nd) (hs : Small N) (i : Int) : MkE 17 N (fun v => #[v, .int .i64 i]) (subV N i) := by
  have c1 := rrig_rd N hs
  unfold subV
  cases hr : rigB rightB N with
  | false => rw [hr] at c1; rw [if_neg (by simp)]; exact rsub_not N i c1
  | true =>
    rw [hr] at c1
    by_cases h1 : i < 0
    · rw [if_neg (by omega)]; exact rsub_neg N i (decide_eq_true h1) c1
    by_cases h2 : (N.length : Int) ≤ i
    · rw [if_neg (by omega)]; exact rsub_far N i (decide_eq_false h1) (decide_eq_true h2) c1
    rw [if_pos ⟨rfl, by omega, by omega⟩]
    obtain ⟨g, hg⟩ := right_is hr
    obtain ⟨j, rfl⟩ := Int.eq_ofNat_of_zero_le (show 0 ≤ i by omega)
    obtain ⟨s, s1, s2, s3, s4⟩ := sub_of hg j (by omega)
    rw [Int.toNat_natCast, s1]
    have hle := beh_le s1
    refine rsub_yes N (fair_of hg) j _ hle.1 hle.2 c1 (fun w v h => ?_)
    have h9 := beh_r N hs 16 (Nat.le_refl _) w v j 1 h (by omega) rfl
    rw [s1] at h9
    exact h9
end Tree
end Go.Proofs.Ytjpjfdmcijleoaa

/- Package tree: Kids; lists of trees. -/
namespace Go.Proofs.Ytjpjfdmcijleoaa
open Go.RowKit
namespace Tree
open Tlv Strs Rw
/-- v is a slice of trees -/
def TreesS (W : World) (v : Value) (Ns : List (List Nd)) : Prop := ∃ vs : List Value, SlR W 1 v Ns.length vs ∧ ∀ (j : Nat) x N, vs[j]? = some x → Ns[j]? = some N → TreeS W x N
theorem TreesS.since {W W' : World} {v : Value} {Ns : List (List Nd)} (h : TreesS W v Ns) (hs : Since W W') : TreesS W' v Ns := by
  obtain ⟨vs, h1, h2⟩ := h
  exact ⟨vs, h1.since hs, fun j x N a b => (h2 j x N a b).since hs⟩
theorem TreesS.slice {W : World} {v : Value} {Ns : List (List Nd)} (h : TreesS W v Ns) : ∃ A c, v = .slice A Ns.length c ∧ Ns.length ≤ c ∧ c ≤ maxLen := by
  obtain ⟨vs, h1, h2⟩ := h
  exact SlR.slice h1
theorem TreesS.form {W : World} {v : Value} {Ns : List (List Nd)} (h : TreesS W v Ns) (hn : 0 < Ns.length) : ∃ b o c, v = .slice (some ⟨b, o, none⟩) Ns.length c ∧ b < W.heap.size ∧ ∀ (j : Nat) N, Ns[j]? = some N → ∃ x, W.cell? ⟨b, o + j, none⟩ = some x ∧ TreeS W x N := by
  obtain ⟨vs, h1, h2⟩ := h
  obtain ⟨b, o, c, hv, -, -, h3, h4⟩ := SlR.form h1 hn
  refine ⟨b, o, c, hv, h3, fun j N hj => ?_⟩
  have hl : vs.length = Ns.length := by have := h1.1; omega
  have hjl := (List.getElem?_eq_some_iff.1 hj).1
  exact ⟨vs[j], h4 j _ (List.getElem?_eq_getElem (by omega)), h2 j _ N (List.getElem?_eq_getElem (by omega)) hj⟩
set_option maxRecDepth 100000 in
theorem treel_info : (Try.prog.info? 23).map (·.size) = some 1 := by kernel_rfl
set_option maxRecDepth 100000 in
set_option maxHeartbeats 8000000 in
theorem kids_core (N : List Nd) (x0 : Nd) (hx0 : N[0]? = some x0) (hkl : x0.k.length ≤ 100000) (Ns : List (List Nd)) (hlen : Ns.length = x0.k.length) (hsub : ∀ (j : Nat) (a : Int), x0.k[j]? = some a → ∃ M, Ns[j]? = some M ∧ MkO 30 N (fun v => #[v, .int .i64 a]) M) (c1 : RdT 10 N (fun v => #[v]) (.bool true)) (w : World) (v : Value) (h : TreeS w v N) : Calls Try.prog 19 #[v] w fun e w' => ∃ v', e = .returned v' ∧ TreesS w' v' Ns ∧ Since w w' := by
  have hpos : 0 < N.length := (List.getElem?_eq_some_iff.1 hx0).1
  have HT := Lib.hid h
  have HTW := Lib.hid h
  have HS := Lib.hid (Since.refl w)
  obtain ⟨b, o, c, rfl, -, -, b1, b2⟩ := treeform h hpos
  obtain ⟨A, q, m0, m1, m2, m3, m4, m5⟩ := b2 0 x0 hx0
  rw [Nat.zero_mul, Nat.add_zero] at m4
  have B1 := Lib.hid b1
  have M4 := Lib.hid m4
  have K5 := Lib.hid m5
  obtain ⟨n, hn⟩ : ∃ n, n = x0.k.length := ⟨_, rfl⟩
  have hle := IntsS.le K5.out
  have hmk : ∀ w : World, (Instr.makeSlice 41 (.int .i64 (n : Int)) (.int .i64 (n : Int))).run Try.prog w = .ok (.slice (some ⟨w.heap.size, 0, none⟩) n n) (w.alloc (.cells (madeCells #[.slice none 0 0] n) 23)) := fun w =>
    run_make_row' (P := Try.prog) 41 23 (.slice none 0 0) 24 Try.underlying41 (by kernel_rfl) rfl .i64 .i64 n (by omega) (by omega) w
  have HSUB := Lib.hid hsub
  have HN := Lib.hid hn
  have HL := Lib.hid hlen
  have t0 : ((N.length : Int) == 0) = false := by rw [beq_eq_false_iff_ne]; omega
  have x1 : (0 : Int) < (N.length : Int) := by omega
  have hn5 : n ≤ 100000 := by omega
  clear h b1 b2 m0 m1 m2 m3 m4 m5 hsub hlen hkl hx0
  go_enter Try.func19, Try.ntmps19
  go_wp2_with fail
  refine c1.calls0 HT.out ?_
  intro w1 h1
  replace HS := Lib.hid (HS.out.step h1)
  replace HT := Lib.hid (HT.out.since h1)
  have m4 := (Below.cell h1 (p := ⟨b, o + 4, none⟩) B1.out).trans M4.out
  have m4' := (Below.cell (h1.alloc (.cells (madeCells #[.slice none 0 0] n) 23)) (p := ⟨b, o + 4, none⟩) B1.out).trans M4.out
  have hw1 : w.heap.size ≤ w1.heap.size := Below.size HS.out
  rw [← hn] at m4 m4'
  clear h1 c1 hn
  go_wp2_with fail
  clear m4 m4'
  have hr0 : Hid ((w1.alloc (.cells (madeCells #[.slice none 0 0] n) 23)).rowIs w1.heap.size 23 n (fun _ => .slice none 0 0)) := Lib.hid (World.rowIs_made w1 (.slice none 0 0) n 23)
  have HT0 := Lib.hid (HT.out.since ((Since.refl w1).alloc (.cells (madeCells #[.slice none 0 0] n) 23)))
  have HS0 := Lib.hid (HS.out.alloc (.cells (madeCells #[.slice none 0 0] n) 23))
  have hB : w1.heap.size + 1 ≤ (w1.alloc (.cells (madeCells #[.slice none 0 0] n) 23)).heap.size := by simp
  go_loopw [23] (fun i wr => ∃ (a : Nat) (f : Nat → Value), i = .int .i64 (a : Int) ∧ a ≤ n ∧ Hid (wr.rowIs w1.heap.size 23 n f) ∧ Hid (∀ j, j < a → ∃ M, Ns[j]? = some M ∧ TreeO wr (w1.heap.size + 1) (f j) M) ∧ Hid (Since w wr)) (fun i _ => n - (intOf i).toNat)
  case atStart => exact ⟨0, _, rfl, Nat.zero_le _, hr0, Lib.hid (fun j hj => by omega), HS0⟩
  case round =>
    clear HS0 HS hr0 HT0 hB
    obtain ⟨a, f, rfl, ha, hr, hM, HS⟩ := hrel
    by_cases hlt : a < n
    · obtain ⟨bk, ok, dk, hv, -, -, l3, l4⟩ := K5.out.form (by have := HN.out; omega)
      obtain ⟨rfl, -, rfl⟩ := Value.slice.inj hv
      clear hv
      have hal : a < x0.k.length := by have := HN.out; omega
      obtain ⟨y, hy⟩ : ∃ y, x0.k[a]? = some y := ⟨_, List.getElem?_eq_getElem hal⟩
      have c9 := (Below.cell HS.out (p := ⟨bk, ok + a, none⟩) l3).trans (l4 a hal)
      rw [show x0.k.getD a 0 = y by simp [List.getD, hy]] at c9
      obtain ⟨M, hM1, hM2⟩ := HSUB.out a y hy
      have z0 := hr.out.cell hlt
      have z1 := hr.out.frozen a
      have q1 : (a : Int) < (n : Int) := by omega
      have hrl := hr.out.lt
      have HM1 := Lib.hid hM1
      clear hy hM1 l4
      go_wp2_with fail
      refine (hM2 wr _ (HTW.out.since HS.out)).mono ?_
      rintro _ w2 ⟨v2, rfl, hO, h2⟩
      have hO' := hO
      obtain ⟨g2, m2, D2, rfl, -, -⟩ := hO'
      have hr2 := Lib.hid (drow_since hr.out h2)
      have HS2 := Lib.hid (HS.out.step h2)
      have y0 := hr2.out.cell hlt
      have y1 := hr2.out.frozen a
      have hr3 := Lib.hid (hr2.out.set a (.slice (some ⟨g2, 0, none⟩) m2 m2))
      have HS3 := Lib.hid (Below.setCell (p := ⟨w1.heap.size, a, none⟩) HS2.out hw1 (.slice (some ⟨g2, 0, none⟩) m2 m2))
      have hM3 : ∀ j, j < a + 1 → ∃ M, Ns[j]? = some M ∧ TreeO (w2.setCell ⟨w1.heap.size, a, none⟩ (.slice (some ⟨g2, 0, none⟩) m2 m2)) (w1.heap.size + 1) (if j = a then .slice (some ⟨g2, 0, none⟩) m2 m2 else f j) M := by
        intro j hj
        by_cases e : j = a
        · subst e
          refine ⟨M, HM1.out, ?_⟩
          rw [if_pos rfl]
          exact (hO.base (show w1.heap.size + 1 ≤ wr.heap.size by omega)).low (a := ⟨w1.heap.size, j, none⟩) (Nat.lt_succ_self _) _
        · obtain ⟨M', k1, k2⟩ := hM.out j (by omega)
          refine ⟨M', k1, ?_⟩
          rw [if_neg e]
          exact (k2.since h2).low (a := ⟨w1.heap.size, a, none⟩) (Nat.lt_succ_self _) _
      have HM3 := Lib.hid hM3
      clear hO h2 hM3 z0 z1 c9
      go_wp2_with fail
      go_roundw
      case rel => exact ⟨a + 1, _, by go_num, by omega, hr3, HM3, HS3⟩
      case measure => (simp [intOf] <;> omega)
    · obtain rfl : a = n := by omega
      have hfin : TreesS wr (.slice (some ⟨w1.heap.size, 0, none⟩) a a) Ns := by
        have hla : Ns.length = a := by rw [HL.out, ← HN.out]
        refine ⟨(List.range a).map f, ⟨by rw [List.length_map, List.length_range, hla, Nat.mul_one], some ⟨w1.heap.size, 0, none⟩, a, by rw [hla], by omega, by unfold maxLen; omega, .inr ⟨w1.heap.size, 0, rfl, hr.out.lt, fun j u hu => ?_⟩⟩, fun j x M hx hm => ?_⟩
        · have hj := (List.getElem?_eq_some_iff.1 hu).1
          rw [List.length_map, List.length_range] at hj
          have := hr.out.cell hj
          rw [Nat.zero_add, this]
          simp [hj] at hu
          rw [hu]
        · have hj := (List.getElem?_eq_some_iff.1 hx).1
          rw [List.length_map, List.length_range] at hj
          obtain ⟨M', k1, k2⟩ := hM.out j hj
          rw [hm] at k1
          cases k1
          simp [hj] at hx
          rw [← hx]
          exact k2.read
      have HF := Lib.hid hfin
      clear hfin
      go_wp2_with fail
      go_ret
      exact ⟨_, rfl, HF.out, HS.out⟩
set_option maxRecDepth 100000 in
theorem kids_mk {N : List Nd} {g : F} (hg : IsT rightB N g) (hs : Small N) (x0 : Nd) (hx0 : N[0]? = some x0) : ∃ Ns : List (List Nd), Ns.length = x0.k.length ∧ (∀ (c t : Nat) (ks : F), g = .cons c t ks .nil → Ns = (parts ks).map (fun p => p.flat 0)) ∧ ∀ w v, TreeS w v N → Calls Try.prog 19 #[v] w fun e w' => ∃ v', e = .returned v' ∧ TreesS w' v' Ns ∧ Since w w' := by
  have c1 := rig_rd N hs
  rw [is_right hg] at c1
  have hkl := (fair_of hg).kids x0 (List.mem_iff_getElem?.2 ⟨0, hx0⟩)
  have hg2 := hg
  obtain ⟨h1, h2, h3, h4, h5⟩ := hg
  cases g with
  | nil => exact absurd h2 (by intro h; exact h)
  | prim c t d nx =>
    cases (show nx = .nil from h2)
    have e : x0 = ⟨c, t, false, d, []⟩ := by
      rw [h3] at hx0
      exact (Option.some.inj hx0).symm
    subst e
    exact ⟨[], rfl, (fun c t ks h => by cases h), kids_core N _ hx0 hkl [] rfl (fun j a h => by cases h) c1⟩
  | cons c t ks nx =>
    cases (show nx = .nil from h2)
    have e : x0 = ⟨c, t, true, ⟨#[]⟩, ks.tops 1⟩ := by
      rw [h3] at hx0
      exact (Option.some.inj hx0).symm
    subst e
    have hA : At N 1 (ks.flat 1) := by
      have h9 : At N 0 ((⟨c, t, true, ⟨#[]⟩, ks.tops 1⟩ : Nd) :: (ks.flat 1 ++ [])) := fun j x hx => by rw [Nat.zero_add, h3]; exact hx
      rw [List.append_nil] at h9
      exact At.tail h9
    have hlen : ((parts ks).map (fun p => p.flat 0)).length = (ks.tops 1).length := by rw [List.length_map, parts_len ks 1]
    refine ⟨(parts ks).map (fun p => p.flat 0), hlen, (fun c t ks' h => by cases h; rfl), kids_core N _ hx0 hkl _ hlen (fun j a h => ?_) c1⟩
    have hj : j < (parts ks).length := by
      have := (List.getElem?_eq_some_iff.1 h).1
      rw [parts_len ks 1]
      exact this
    obtain ⟨p1, p2, p3, b, p4, p5⟩ := parts_at rightB ks 1 j (parts ks)[j] h1.2.2.2.1 (List.getElem?_eq_getElem hj)
    have hb : a = (b : Int) := by rw [h] at p4; exact Option.some.inj p4
    subst hb
    have hd : max (ks.deep + 1) 0 ≤ 16 := h4
    have hbeh := beh_single p1 p2 (p5 N hA) (show (parts ks)[j].deep ≤ 16 by omega)
    have hbl : b < N.length := by have := beh_le hbeh; omega
    refine ⟨(parts ks)[j].flat 0, by rw [List.getElem?_map, List.getElem?_eq_getElem hj]; rfl, ?_⟩
    rw [← sub_flat (p5 N hA)]
    exact cut_o hg2 hs b _ hbl hbeh
end Tree
end Go.Proofs.Ytjpjfdmcijleoaa

/- Package tree: Of. -/
namespace Go.Proofs.Ytjpjfdmcijleoaa
open Go.RowKit
namespace Tree
open Tlv Strs Rw
/-- rows that have been made since -/
theorem rows_merge {W W' : World} {base : Nat} {rs rs' : List Row} (h : Rw.Rows W base rs) (hs : Since W W') (h' : Rw.Rows W' W.heap.size rs') (hb : base ≤ W.heap.size) : Rw.Rows W' base (rs ++ rs') := by
  refine ⟨fun x hx => ?_, ?_⟩
  · rcases List.mem_append.1 hx with hx | hx
    · exact (h.since hs).own x hx
    · exact own_base (h'.own x hx) hb
  · rw [List.pairwise_append]
    refine ⟨h.apart, h'.apart, fun a ha b hb g h3 h4 => ?_⟩
    have h5 := (World.ownsRow.lt (h.own a ha) g h3).2
    have h6 := (World.ownsRow.lt (h'.own b hb) g h4).1
    omega
set_option maxRecDepth 100000 in
/-- append of what another slice has -/
theorem app_from {T E : TypeId} {z : Value} {size bytes : Nat} (I : ElemIs T E z size bytes) {ops : Array Oper} {rest : List Oper} {o : Oper} {a : Act} {Q : Exit → Act → World → Prop} (hgd : o.guard = none) (s x : Operand)
    (ho : o.op = .call { callee := .builtin .append, args := #[s, x], argTypes := #[T, T] })
    (w0 wr : World) (A B : List Row) (v : Value) (n : Nat) (xs : List Value) (hs : a.eval s = v) (hown : Rw.Rows wr w0.heap.size (A ++ ⟨E, size, v, n, xs⟩ :: B)) (hS : Since w0 wr)
    (ad : Addr) (cells : List Value) (c m : Nat) (hx : a.eval x = .slice (some ad) m c) (hl : cells.length = m * size) (hcell : ∀ j u, cells[j]? = some u → wr.cell? (ad.add j) = some u) (h1 : ∀ u ∈ cells, u.oneCell' = true)
    (h63 : n + m ≤ maxLen) (hbytes : (n + m) * bytes ≤ 140737488355328)
    (h : ∀ v' w', Rw.Rows w' w0.heap.size (A ++ ⟨E, size, v', n + m, xs ++ cells⟩ :: B) → Since w0 w' → wpList Try.prog ops Q rest (a.put o.dst v') w') :
    wpList Try.prog ops Q (o :: rest) a wr := by
  obtain ⟨ht, hi, hz, hs0⟩ := I
  obtain ⟨i, hi1, hi2⟩ := Option.map_eq_some_iff.1 hi
  simp only [Prod.mk.injEq] at hi2
  have hown1 := hown.get
  have h9 := Below.size hS
  refine wpList_append_own_at (w := wr) hgd s x T ho w0.heap.size E i z size bytes ht hi1 hi2.1 hi2.2.1 hi2.2.2 hz hs0 v n xs hs hown1 ad m c cells hx hl hcell h1 h63 hbytes h9 ?_
  intro v' w' ho' hg _ hw
  refine h v' w' (hown.turn ⟨E, size, v', n + m, xs ++ cells⟩ ho' fun u hu hap => ⟨?_, ?_⟩) ?_
  · refine World.ownsRow.kept hu hg ?_
    cases hub : u.v.ownBlock with
    | none => exact Or.inl rfl
    | some g => exact Or.inr fun e => hap g e.symm hub
  · intro g h2 h3
    rcases hw with hw | hw
    · exact hap g (hw ▸ h2) h3
    · rw [show (⟨E, size, v', n + m, xs ++ cells⟩ : Row).v = v' from rfl, hw] at h2
      cases h2
      have h4 := (World.ownsRow.lt hu _ h3).2
      omega
  · exact Below.grown hS hg h9 (fun k hk => (hown1.lt k hk).1)
theorem rows_sub {W : World} {base : Nat} {rs rs' : List Row} (h : Rw.Rows W base rs) (hs : rs'.Sublist rs) : Rw.Rows W base rs' := ⟨fun r hr => h.own r (hs.subset hr), h.apart.sublist hs⟩
theorem fold_snoc (h0 : List Nd) (Ns : List (List Nd)) (a : Nat) (N : List Nd) (h : Ns[a]? = some N) : (Ns.take (a + 1)).foldl stepN h0 = stepN ((Ns.take a).foldl stepN h0) N := by
  obtain ⟨h1, h2⟩ := List.getElem?_eq_some_iff.1 h
  rw [List.take_succ_eq_append_getElem h1, List.foldl_append, h2]
  rfl
set_option maxRecDepth 100000 in
set_option maxHeartbeats 8000000 in
theorem of_mk (c t : Int) (Ns : List (List Nd)) (hF : ∀ N ∈ Ns, Fair N) (hnl : Ns.length ≤ 1000) (hsum : ∀ a, ((Ns.take a).foldl stepN [⟨c, t, true, ⟨#[]⟩, []⟩]).length ≤ 10000) (hks : ∀ a, ∀ x ∈ (Ns.take a).foldl stepN [⟨c, t, true, ⟨#[]⟩, []⟩], x.k.length ≤ 100000) (w : World) (P : Value) (hP : TreesS w P Ns) : Calls Try.prog 20 #[.int .i64 c, .int .i64 t, P] w fun e w' => ∃ v', e = .returned v' ∧ TreeS w' v' (ofN c t Ns) ∧ Since w w' := by
  have HP := Lib.hid hP
  have HS := Lib.hid (Since.refl w)
  obtain ⟨PA, pc, rfl, hp1, hp2⟩ := hP.slice
  have HFF := Lib.hid hF
  have HSM := Lib.hid hsum
  have HKS := Lib.hid hks
  clear hP hF hsum hks
  go_enter Try.func20, Try.ntmps20
  go_wp2_with fail
  have hR0 : Hid (Rw.Rows (w.alloc (.cells #[.int .i64 c, .int .i64 t, .bool true, .string ⟨#[]⟩, .slice none 0 0] 40)) w.heap.size (⟨40, 5, .slice (some ⟨w.heap.size, 0, none⟩) 1 1, 1, [((⟨c, t, true, ⟨#[]⟩, []⟩ : Nd), Value.slice none 0 0)].flatMap nc⟩ :: [((⟨c, t, true, ⟨#[]⟩, []⟩ : Nd), Value.slice none 0 0)].map kr)) := Lib.hid (by
    refine ⟨fun r hr => ?_, List.pairwise_cons.2 ⟨fun r hr => ?_, by simp⟩⟩
    · rcases List.mem_cons.1 hr with rfl | hr
      · exact own_lone (C := [.int .i64 c, .int .i64 t, .bool true, .string ⟨#[]⟩, .slice none 0 0]) (Nat.le_refl _) (heap_alloc_new w _)
      · rw [List.mem_singleton.1 hr]
        exact World.ownsRow_nil _ _ _ _
    · rw [List.mem_singleton.1 hr]
      exact Rw.Apart.none.symm)
  have HS0 := Lib.hid ((Since.refl w).alloc (.cells #[.int .i64 c, .int .i64 t, .bool true, .string ⟨#[]⟩, .slice none 0 0] 40))
  clear HS
  go_loopw [7, 16] (fun V i wr => ∃ (a : Nat) (E : List (Nd × Value)), i = .int .i64 (a : Int) ∧ a ≤ Ns.length ∧ 0 < E.length ∧ Hid (E.map Prod.fst = (Ns.take a).foldl stepN [⟨c, t, true, ⟨#[]⟩, []⟩]) ∧ Hid (Rw.Rows wr w.heap.size (⟨40, 5, V, E.length, E.flatMap nc⟩ :: E.map kr)) ∧ Hid (Since w wr)) (fun _ i _ => Ns.length - (intOf i).toNat)
  case atStart => exact ⟨0, [((⟨c, t, true, ⟨#[]⟩, []⟩ : Nd), Value.slice none 0 0)], rfl, Nat.zero_le _, Nat.zero_lt_one, Lib.hid rfl, hR0, HS0⟩
  case round =>
    clear HS0 hR0
    obtain ⟨a, E, rfl, ha, hE0, hE, HR, HS⟩ := hrel
    obtain ⟨g, cc, hV, hc1, hc2⟩ := own_form (HR.out.own _ List.mem_cons_self) hE0
    dsimp only at hV
    subst hV
    by_cases hlt : a < Ns.length
    · obtain ⟨b, o, c9, hv, l3, l4⟩ := HP.out.form (by omega)
      obtain ⟨rfl, -, rfl⟩ := Value.slice.inj hv
      clear hv
      obtain ⟨M, hM⟩ : ∃ M, Ns[a]? = some M := ⟨_, List.getElem?_eq_getElem hlt⟩
      obtain ⟨x, hx1, hx2⟩ := l4 a M hM
      have n0 := (Below.cell HS.out (p := ⟨b, o + a, none⟩) l3).trans hx1
      have HX := Lib.hid hx2
      have hfs := fold_snoc [⟨c, t, true, ⟨#[]⟩, []⟩] Ns a M hM
      rw [← hE.out] at hfs
      have HFS := Lib.hid hfs
      have hMF := HFF.out M (List.mem_iff_getElem?.2 ⟨a, hM⟩)
      obtain ⟨XA, xc, rfl, -, -⟩ := hx2.slice
      by_cases hM0 : M.length = 0
      · have t1 : decide ((0 : Int) < (M.length : Int)) = false := decide_eq_false (by omega)
        have t2 : decide (0 < M.length) = false := decide_eq_false (by omega)
        have hE2 : Hid (E.map Prod.fst = (Ns.take (a + 1)).foldl stepN [⟨c, t, true, ⟨#[]⟩, []⟩]) := Lib.hid (by
          rw [HFS.out]
          unfold stepN
          rw [if_pos hM0])
        clear l4 hx1 hx2 hM hfs
        go_wp2_with fail
        go_roundw
        case rel => exact ⟨a + 1, E, by go_num, by omega, hE0, hE2, HR, HS⟩
        case measure => (simp [intOf] <;> omega)
      · have t1 : decide ((0 : Int) < (M.length : Int)) = true := decide_eq_true (by omega)
        have t2 : decide (0 < M.length) = true := decide_eq_true (by omega)
        obtain ⟨⟨hd, kv⟩, E', rfl⟩ : ∃ y E', E = y :: E' := by
          cases E with
          | nil => exact absurd hE0 (Nat.lt_irrefl _)
          | cons y E' => exact ⟨y, E', rfl⟩
        have hlenE : E'.length + 1 ≤ 10000 := by
          have h9 := HSM.out a
          rw [← hE.out, List.length_map] at h9
          exact h9
        have hkl : hd.k.length ≤ 100000 := by
          have h9 := HKS.out a hd
          rw [← hE.out] at h9
          exact h9 (by simp)
        have hRk := HR.out.own (kr (hd, kv)) (by simp)
        obtain ⟨kA, kc, hkv⟩ : ∃ A c, kv = .slice A hd.k.length c := own_any hRk
        subst hkv
        have o2 := ((own_cells (HR.out.own _ List.mem_cons_self)).2.2 4 (.slice kA hd.k.length kc) rfl).1
        obtain ⟨m, hm⟩ : ∃ m, m = E'.length + 1 := ⟨_, rfl⟩
        have hRR : Rw.Rows wr w.heap.size (([⟨40, 5, .slice (some ⟨g, 0, none⟩) m cc, m, ((hd, .slice kA hd.k.length kc) :: E').flatMap nc⟩] : List Row) ++ ⟨3, 1, .slice kA hd.k.length kc, hd.k.length, hd.k.map (Value.int .i64)⟩ :: E'.map kr) := by
          rw [hm]
          exact HR.out
        have HRR := Lib.hid hRR
        have HB1 := Lib.hid (show hd.k.length + 1 ≤ maxLen by unfold maxLen; omega)
        have HB2 := Lib.hid (show (hd.k.length + 1) * 8 ≤ 140737488355328 by omega)
        have hm1 : 0 < m := by omega
        have x1 : (0 : Int) < (m : Int) := by omega
        have HM1 := Lib.hid (show 4 < m * 5 by omega)
        have hm3 : m ≤ 10000 := by omega
        have HMM := Lib.hid hm
        have e8 : ((hd, Value.slice kA hd.k.length kc) :: E').length = m := by rw [hm]; rfl
        rw [e8]
        clear l4 hx1 hx2 hM hfs hRR HR hRk e8 hlenE hE0 hm
        have tok1 : True := trivial
        go_wp2_with (first
          | (at_builtin; have _t := tok1; refine app_rows elemT rfl _ _ (by rfl) w wr _ rfl _ _ (.slice kA hd.k.length kc) hd.k.length _ (by rfl) HRR.out HS.out #[.int .i64 (m : Int)] 1 1 (by rfl) rfl (by intro v hv; simp at hv; subst hv; rfl) HB1.out HB2.out ?_; intro kv2 w6 HQ1 HT1 hk1; obtain ⟨ka, kc2, rfl⟩ : ∃ A c, kv2 = .slice A (hd.k.length + 1) c := own_any HQ1.get; have HR6 := Lib.hid HQ1; have HS6 := Lib.hid HT1; clear HQ1 HT1 hk1 tok1 o2 n0)
          | (refine RwL.store_rows rfl 38 _ _ (by rfl) intl_one w w6 [] (⟨3, 1, .slice ka (hd.k.length + 1) kc2, hd.k.length + 1, hd.k.map (Value.int .i64) ++ ([.int .i64 (m : Int)] : List Value)⟩ :: E'.map kr) 40 5 g m cc _ HR6.out HS6.out 4 HM1.out (by rfl) (.slice ka (hd.k.length + 1) kc2) (by rfl) rfl ?_; intro w7 HQ2 HT2 hk2))
        have HS7 := Lib.hid HT2
        have HQ3 := Lib.hid HQ2
        clear HQ2 HT2 hk2 HR6 HS6
        refine (moved_o M hMF (by omega) (m : Int) (by omega) w7 _ (HX.out.since HS7.out)).mono ?_
        rintro _ w8 ⟨v8, rfl, hO, h8⟩
        obtain ⟨g', m', D', rfl, hR', hD', hM'⟩ := hO
        have hmm' : m' = M.length := by rw [← hD', ← List.length_map (f := Prod.fst), hM', List.length_map]
        have hmg := rows_merge HQ3.out h8 hR' (Below.size HS7.out)
        have HS8 := Lib.hid (HS7.out.step h8)
        have hcl := (own_cells (hR'.own _ (show (⟨40, 5, .slice (some ⟨g', 0, none⟩) m' m', m', (D' ++ []).flatMap nc⟩ : Row) ∈ mrows g' m' D' [] from List.mem_cons_self))).2.2
        rw [List.append_nil] at hcl
        have HCL := Lib.hid hcl
        have HMG := Lib.hid (show Rw.Rows w8 w.heap.size ([] ++ ⟨40, 5, .slice (some ⟨g, 0, none⟩) m cc, m, (((hd, .slice kA hd.k.length kc) :: E').flatMap nc).set 4 (.slice ka (hd.k.length + 1) kc2)⟩ :: (⟨3, 1, .slice ka (hd.k.length + 1) kc2, hd.k.length + 1, hd.k.map (Value.int .i64) ++ ([.int .i64 (m : Int)] : List Value)⟩ :: E'.map kr ++ mrows g' m' D' [])) from hmg)
        have HDL := Lib.hid (show (D'.flatMap nc).length = m' * 5 by rw [flat_nc_len, hD'])
        have HON := Lib.hid (flat_nc_one D' fun x hx => by
          have h9 := hR'.own (kr x) (List.mem_cons_of_mem _ (List.mem_map.2 ⟨x, hx, rfl⟩))
          obtain ⟨A9, c9, h9⟩ : ∃ A c, x.2 = .slice A x.1.k.length c := own_any h9
          rw [h9]
          rfl)
        have HB3 := Lib.hid (show m + m' ≤ maxLen by have := hMF.len; unfold maxLen; omega)
        have HB4 := Lib.hid (show (m + m') * 64 ≤ 140737488355328 by have := hMF.len; omega)
        have HM' := Lib.hid hM'
        have HD' := Lib.hid hD'
        clear hmg hR' hD' hM' h8 hcl HQ3 HS7 hmm'
        go_wp2_with (at_builtin; refine app_from elemN rfl _ _ (by rfl) w w8 [] _ _ m _ (by rfl) HMG.out HS8.out ⟨g', 0, none⟩ (D'.flatMap nc) m' m' (by rfl) HDL.out (fun j u hu => by rw [Addr.add_mid, Nat.zero_add]; exact (HCL.out j u hu).1) HON.out HB3.out HB4.out ?_; intro V9 w9 HQ9 HT9)
        have hst : (((hd, Value.slice kA hd.k.length kc) :: E').flatMap nc).set 4 (.slice ka (hd.k.length + 1) kc2) = ((({ hd with k := hd.k ++ [(m : Int)] } : Nd), Value.slice ka (hd.k.length + 1) kc2) :: E').flatMap nc := mset [] E' hd (.slice kA hd.k.length kc) (.slice ka (hd.k.length + 1) kc2) (hd.k ++ [(m : Int)])
        rw [hst] at HQ9
        have hfin : Rw.Rows w9 w.heap.size (⟨40, 5, V9, (((({ hd with k := hd.k ++ [(m : Int)] } : Nd), Value.slice ka (hd.k.length + 1) kc2) :: E') ++ D').length, (((({ hd with k := hd.k ++ [(m : Int)] } : Nd), Value.slice ka (hd.k.length + 1) kc2) :: E') ++ D').flatMap nc⟩ :: (((({ hd with k := hd.k ++ [(m : Int)] } : Nd), Value.slice ka (hd.k.length + 1) kc2) :: E') ++ D').map kr) := by
          have e1 : (((({ hd with k := hd.k ++ [(m : Int)] } : Nd), Value.slice ka (hd.k.length + 1) kc2) :: E') ++ D').length = m + m' := by
            rw [List.length_append, HD'.out, HMM.out]
            rfl
          have e2 : kr (({ hd with k := hd.k ++ [(m : Int)] } : Nd), Value.slice ka (hd.k.length + 1) kc2) = ⟨3, 1, .slice ka (hd.k.length + 1) kc2, hd.k.length + 1, hd.k.map (Value.int .i64) ++ ([.int .i64 (m : Int)] : List Value)⟩ := by
            unfold kr
            simp
          rw [e1, List.flatMap_append, List.map_append, List.map_cons, e2]
          refine rows_sub HQ9 (List.Sublist.cons_cons _ ?_)
          refine List.Sublist.append (List.Sublist.refl _) ?_
          exact List.sublist_cons_self _ _
        have HF9 := Lib.hid hfin
        have HS9 := Lib.hid HT9
        have HE9 : Hid ((((({ hd with k := hd.k ++ [(m : Int)] } : Nd), Value.slice ka (hd.k.length + 1) kc2) :: E') ++ D').map Prod.fst = (Ns.take (a + 1)).foldl stepN [⟨c, t, true, ⟨#[]⟩, []⟩]) := Lib.hid (by
          rw [HFS.out, List.map_append, HM'.out]
          unfold stepN
          rw [if_neg hM0, List.length_map, show ((hd, Value.slice kA hd.k.length kc) :: E').length = m from by rw [HMM.out]; rfl]
          rfl)
        clear hfin HQ9 HT9 hst
        go_wp2_with fail
        go_roundw
        case rel => exact ⟨a + 1, _, by go_num, by omega, by rw [List.length_append]; exact Nat.lt_of_lt_of_le (Nat.zero_lt_succ _) (Nat.le_add_right _ _), HE9, HF9, HS9⟩
        case measure => (simp [intOf] <;> omega)
    · obtain rfl : a = Ns.length := by omega
      have hT : TreeS wr (.slice (some ⟨g, 0, none⟩) E.length cc) (ofN c t Ns) := ⟨E, ⟨SlR.own (HR.out.own _ List.mem_cons_self), fun x hx => by
        have h9 := HR.out.own (kr x) (List.mem_cons_of_mem _ (List.mem_map.2 ⟨x, hx, rfl⟩))
        have h8 : SlR wr 1 x.2 x.1.k.length (x.1.k.map (Value.int .i64)) := SlR.own h9
        exact h8⟩, by rw [hE.out, List.take_length]; rfl⟩
      have HT := Lib.hid hT
      clear hT
      go_wp2_with fail
      go_ret
      exact ⟨_, rfl, HT.out, HS.out⟩
end Tree
end Go.Proofs.Ytjpjfdmcijleoaa

/- Trees among the arguments; clavigerplain.Tree. -/
namespace Go.Proofs.Ytjpjfdmcijleoaa
open Go.RowKit
namespace Tree
open Tlv Strs Rw
theorem trod_struct5 {H : Type} {enc : TypeId × Value → H} {P : Program} {w : World} {base : Nat} {sp : Nat → Bool} {held : Bool} {t : TypeId} {f0 f1 f2 f3 f4 : Field} {fuel : Nat} {cs : List Value} {x : DataW H × List MemPlace} (ht : P.underlying t = some (.struct #[f0, f1, f2, f3, f4])) (h : DataW.trod enc P w base sp held fuel t cs = some x) :
    ∃ y0 y1 y2 y3 y4 n, x = (.agg [y0.1, y1.1, y2.1, y3.1, y4.1], y0.2 ++ (y1.2 ++ (y2.2 ++ (y3.2 ++ y4.2)))) ∧ cs.length = P.cellsOf t ∧ DataW.trod enc P w base sp held n f0.type ((cs.drop f0.offset).take (P.cellsOf f0.type)) = some y0 ∧
      DataW.trod enc P w base sp held n f1.type ((cs.drop f1.offset).take (P.cellsOf f1.type)) = some y1 ∧ DataW.trod enc P w base sp held n f2.type ((cs.drop f2.offset).take (P.cellsOf f2.type)) = some y2 ∧
      DataW.trod enc P w base sp held n f3.type ((cs.drop f3.offset).take (P.cellsOf f3.type)) = some y3 ∧ DataW.trod enc P w base sp held n f4.type ((cs.drop f4.offset).take (P.cellsOf f4.type)) = some y4 := by
  obtain ⟨xs, n, _, rfl, hl, hlen, hf⟩ := DataW.trod_struct ht h
  match xs, hlen with
  | [y0, y1, y2, y3, y4], _ => exact ⟨y0, y1, y2, y3, y4, n, by simp, hl, by simpa using hf 0 f0 rfl, by simpa using hf 1 f1 rfl, by simpa using hf 2 f2 rfl, by simpa using hf 3 f3 rfl, by simpa using hf 4 f4 rfl⟩
set_option maxRecDepth 100000 in
theorem node_cells {H : Type} {enc : TypeId × Value → H} {w : World} {sp : Nat → Bool} {held : Bool} {m : Nat} {cs : List Value} {z : DataW H × List MemPlace} (h : DataW.trod enc Try.prog w 0 sp held m 40 cs = some z) (hlt : ∀ x ∈ z.2, x.block < w.heap.size) :
    ∃ p : Nd × Value, cs = nc p ∧ IntsS w p.2 p.1.k := by
  obtain ⟨y0, y1, y2, y3, y4, n, hz, hl, h0, h1, h2, h3, h4⟩ := trod_struct5 Try.underlying40 h
  have hC : Try.prog.cellsOf 40 = 5 := by kernel_rfl
  have ci : Try.prog.cellsOf 3 = 1 := by kernel_rfl
  have cb : Try.prog.cellsOf 4 = 1 := by kernel_rfl
  have cs1 : Try.prog.cellsOf 9 = 1 := by kernel_rfl
  have cl : Try.prog.cellsOf 38 = 1 := by kernel_rfl
  rw [hC] at hl
  obtain ⟨a0, a1, a2, a3, a4, rfl⟩ : ∃ a0 a1 a2 a3 a4, cs = [a0, a1, a2, a3, a4] := by
    match cs, hl with
    | [a0, a1, a2, a3, a4], _ => exact ⟨a0, a1, a2, a3, a4, rfl⟩
  dsimp only at h0 h1 h2 h3 h4
  rw [ci] at h0 h1
  rw [cb] at h2
  rw [cs1] at h3
  rw [cl] at h4
  obtain ⟨c, e0, _, w0⟩ := DataW.trod_int Try.underlying3 h0
  obtain ⟨t, e1, _, w1⟩ := DataW.trod_int Try.underlying3 h1
  obtain ⟨b, e2, _⟩ := DataW.trod_bool Try.underlying4 h2
  obtain ⟨d, e3, _, w3⟩ := DataW.trod_string Try.underlying9 h3
  simp at e0 e1 e2 e3
  subst e0 e1 e2 e3
  have h4' : DataW.trod enc Try.prog w 0 sp held n 38 [a4] = some y4 := by simpa using h4
  obtain ⟨A, l, q, ha⟩ := Go.Joins.slice_form Try.underlying38 h4'
  have ha' : a4 = .slice A l q := by simpa using ha
  subst ha'
  obtain ⟨ks, k1, k2, k3⟩ := ints_arg Try.underlying38 Try.underlying3 (by kernel_rfl) (d := y4.1) (ps := y4.2) (by simpa [Value.cells] using h4') (fun x hx => hlt x (by rw [hz]; simp [hx]))
  exact ⟨(⟨c, t, b, d, ks⟩, .slice A l q), rfl, k1⟩
set_option maxRecDepth 100000 in
theorem tree_arg {H : Type} {enc : TypeId × Value → H} {w : World} {sp : Nat → Bool} {held : Bool} {fuel : Nat} {A : Option Addr} {n c : Nat} {d : DataW H} {ps : List MemPlace}
    (hf : DataW.trod enc Try.prog w 0 sp held fuel 23 (Value.slice A n c).cells.toList = some (d, ps)) (hlt : ∀ x ∈ ps, x.block < w.heap.size) :
    ∃ N : List Nd, TreeS w (.slice A n c) N ∧ n = N.length ∧ True := by
  obtain ⟨l, h1, h2, h3⟩ := arg_elems (k := 5) nc (fun p => IntsS w p.2 p.1.k) Try.underlying23 (by kernel_rfl) (by decide) (fun _ => rfl)
    (fun m cs z hz _ hb => node_cells hz hb) (by simpa [Value.cells] using hf) hlt
  subst h1
  exact ⟨l.map Prod.fst, ⟨l, ⟨h2, h3⟩, rfl⟩, by rw [List.length_map], trivial⟩
/-- clavigerplain.Tree -/
def plainT (N : List Nd) (m : Nat) : Bool := decide (N.length ≤ m) && N.all (fun x => decide (x.d.size ≤ 200) && decide (x.k.length ≤ 100))
set_option maxRecDepth 100000 in
theorem plain_big (N : List Nd) (m : Nat) (h : m < N.length) : RdT 6 N (fun v => #[v, .int .i64 (m : Int)]) (.bool false) := by
  intro w v hT
  have HS := Lib.hid (Since.refl w)
  obtain ⟨A, c, rfl, -, -⟩ := hT.slice
  have t1 : decide ((m : Int) < (N.length : Int)) = true := decide_eq_true (by omega)
  have t2 : decide (m < N.length) = true := decide_eq_true h
  clear hT
  go_enter Try.func6, Try.ntmps6
  go_wp2_with fail
  go_ret
  exact ⟨rfl, HS.out⟩
set_option maxRecDepth 100000 in
set_option maxHeartbeats 4000000 in
theorem plain_rd (N : List Nd) (m : Nat) (hm : m ≤ 1000) (Q : Bool) (hQ : Q = plainT N m) : RdT 6 N (fun v => #[v, .int .i64 (m : Int)]) (.bool Q) := by
  by_cases hbig : m < N.length
  · have : Q = false := by rw [hQ]; unfold plainT; rw [decide_eq_false (by omega)]; rfl
    rw [this]
    exact plain_big N m hbig
  have hQ2 : Q = N.all (fun x => decide (x.d.size ≤ 200) && decide (x.k.length ≤ 100)) := by rw [hQ]; unfold plainT; rw [decide_eq_true (by omega)]; rfl
  clear hQ
  intro w v hT
  have HS := Lib.hid (Since.refl w)
  have HQ := Lib.hid hQ2
  have t1 : decide ((m : Int) < (N.length : Int)) = false := decide_eq_false (by omega)
  have t2 : decide (m < N.length) = false := decide_eq_false hbig
  by_cases h0 : N.length = 0
  · obtain rfl := List.length_eq_zero_iff.1 h0
    obtain ⟨A, c, rfl, -, -⟩ := hT.slice
    have hq : Q = true := hQ2
    subst hq
    clear hT hQ2
    go_enter Try.func6, Try.ntmps6
    go_wp2_with fail
    go_loop [5] (fun i => i = .int .i64 0) (fun _ => 0)
    case atStart => rfl
    case round =>
      obtain rfl := hrel
      go_wp2_with fail
      go_ret
      exact ⟨rfl, HS.out⟩
  obtain ⟨b, o, c, rfl, -, -, b1, b2⟩ := treeform hT (by omega)
  have B1 := Lib.hid b1
  have B2 := Lib.hid b2
  clear hT b1 b2 hQ2
  go_enter Try.func6, Try.ntmps6
  go_wp2_with fail
  go_loopw [5] (fun i wr => ∃ a : Nat, i = .int .i64 (a : Int) ∧ a ≤ N.length ∧ Hid (∀ j x, j < a → N[j]? = some x → (decide (x.d.size ≤ 200) && decide (x.k.length ≤ 100)) = true) ∧ Hid (Since w wr)) (fun i _ => N.length - (intOf i).toNat)
  case atStart => exact ⟨0, rfl, Nat.zero_le _, Lib.hid (fun j x h => by omega), HS⟩
  case round =>
    clear HS
    obtain ⟨a, rfl, ha, hall, HS⟩ := hrel
    by_cases hlt : a < N.length
    · obtain ⟨y, hy⟩ : ∃ y, N[a]? = some y := ⟨_, List.getElem?_eq_getElem hlt⟩
      obtain ⟨A, q, m0, m1, m2, m3, m4, m5⟩ := B2.out a y hy
      have n3 := (Below.cell HS.out (p := ⟨b, o + a * 5 + 3, none⟩) B1.out).trans m3
      have n4 := (Below.cell HS.out (p := ⟨b, o + a * 5 + 4, none⟩) B1.out).trans m4
      have x1 : (a : Int) < (N.length : Int) := by omega
      have x2 : (0 : Int) ≤ (a : Int) := by omega
      have hym := List.mem_iff_getElem?.2 ⟨a, hy⟩
      have hle := IntsS.le m5
      by_cases hd : 200 < y.d.size
      · have u1 : decide ((200 : Int) < (y.d.size : Int)) = true := decide_eq_true (by omega)
        have u2 : decide (200 < y.d.size) = true := decide_eq_true hd
        have hq : Q = false := by
          rw [HQ.out, List.all_eq_false]
          exact ⟨y, hym, by simp; omega⟩
        subst hq
        clear m0 m1 m2 m3 m4 m5 hy hym
        go_wp2_with fail
        go_ret
        exact ⟨rfl, HS.out⟩
      · have u1 : decide ((200 : Int) < (y.d.size : Int)) = false := decide_eq_false (by omega)
        have u2 : decide (200 < y.d.size) = false := decide_eq_false hd
        by_cases hk : 100 < y.k.length
        · have u3 : decide ((100 : Int) < (y.k.length : Int)) = true := decide_eq_true (by omega)
          have u4 : decide (100 < y.k.length) = true := decide_eq_true hk
          have hq : Q = false := by
            rw [HQ.out, List.all_eq_false]
            exact ⟨y, hym, by simp; omega⟩
          subst hq
          clear m0 m1 m2 m3 m4 m5 hy hym
          go_wp2_with fail
          go_ret
          exact ⟨rfl, HS.out⟩
        · have u3 : decide ((100 : Int) < (y.k.length : Int)) = false := decide_eq_false (by omega)
          have u4 : decide (100 < y.k.length) = false := decide_eq_false hk
          have hall2 : ∀ j x, j < a + 1 → N[j]? = some x → (decide (x.d.size ≤ 200) && decide (x.k.length ≤ 100)) = true := fun j x hj hx => by
            by_cases e : j = a
            · subst e
              rw [hy] at hx
              cases hx
              simp
              omega
            · exact hall.out j x (by omega) hx
          have HA := Lib.hid hall2
          clear m0 m1 m2 m3 m4 m5 hy hym hall2
          go_wp2_with fail
          go_roundw
          case rel => exact ⟨a + 1, by go_num, by omega, HA, HS⟩
          case measure => (simp [intOf] <;> omega)
    · obtain rfl : a = N.length := by omega
      have hq : Q = true := by
        rw [HQ.out, List.all_eq_true]
        intro x hx
        obtain ⟨j, hj⟩ := List.mem_iff_getElem?.1 hx
        exact hall.out j x (List.getElem?_eq_some_iff.1 hj).1 hj
      subst hq
      go_wp2_with fail
      go_ret
      exact ⟨rfl, HS.out⟩
theorem plain_small {N : List Nd} {m : Nat} (hm : m ≤ 100) (h : plainT N m = true) : Small N ∧ N.length ≤ m ∧ (∀ x ∈ N, x.d.size ≤ 200) ∧ ∀ x ∈ N, x.k.length ≤ 100 := by
  unfold plainT at h
  simp only [Bool.and_eq_true, decide_eq_true_eq, List.all_eq_true] at h
  exact ⟨⟨by omega, fun x hx => by have := (h.2 x hx).1; omega⟩, h.1, fun x hx => (h.2 x hx).1, fun x hx => (h.2 x hx).2⟩
/-- how long what is written can be -/
theorem enc_le (g : F) : ∀ (i : Nat), (∀ x ∈ g.flat i, x.d.size ≤ 200) → g.enc.length ≤ g.cnt * 207 := by
  have key := fun c t b n => (Head.encL_len c t b n)
  induction g with
  | nil => intro i _; exact Nat.le_refl _
  | prim c t d nx ih =>
    intro i h
    have hE : (F.prim c t d nx).enc.length = (Head.encL c t false d.size).length + d.data.toList.length + nx.enc.length := by
      show (Head.encL c t false d.size ++ d.data.toList ++ nx.enc).length = _
      rw [List.length_append, List.length_append]
    have hd : d.data.toList.length = d.size := rfl
    have h1 := h ⟨c, t, false, d, []⟩ List.mem_cons_self
    have h2 := ih (i + 1) (fun x hx => h x (List.mem_cons_of_mem _ hx))
    have h3 := key c t false d.size
    have hc : (F.prim c t d nx).cnt = 1 + nx.cnt := rfl
    dsimp only at h1
    rw [hE, hc]
    omega
  | cons c t ks nx ih1 ih2 =>
    intro i h
    have hE : (F.cons c t ks nx).enc.length = (Head.encL c t true ks.enc.length).length + ks.enc.length + nx.enc.length := by
      show (Head.encL c t true ks.enc.length ++ ks.enc ++ nx.enc).length = _
      rw [List.length_append, List.length_append]
    have hm : ∀ x ∈ ks.flat (i + 1) ++ nx.flat (i + 1 + ks.cnt), x.d.size ≤ 200 := fun x hx => h x (List.mem_cons_of_mem _ hx)
    have h1 := ih1 (i + 1) (fun x hx => hm x (List.mem_append_left _ hx))
    have h2 := ih2 (i + 1 + ks.cnt) (fun x hx => hm x (List.mem_append_right _ hx))
    have h3 := key c t true ks.enc.length
    have hc : (F.cons c t ks nx).cnt = 1 + ks.cnt + nx.cnt := rfl
    rw [hE, hc]
    omega
end Tree
end Go.Proofs.Ytjpjfdmcijleoaa

/- The reference of trees: the bytes of a node; Encode. -/
namespace Go.Proofs.Ytjpjfdmcijleoaa
open Go.RowKit
namespace Tree
open Tlv Strs
/-- three cells that stand -/
structure N3 (w : World) (b p : Nat) (x y z : Value) (W : World) : Prop where
  since : Since w W
  lt : b < w.heap.size
  c0 : W.cell? ⟨b, p, none⟩ = some x
  c1 : W.cell? ⟨b, p + 1, none⟩ = some y
  c2 : W.cell? ⟨b, p + 2, none⟩ = some z
section
variable {w : World} {b p : Nat} {x y z : Value} {W W' : World}
theorem n3step (hs : Since W W') (h : Hid (N3 w b p x y z W)) : Hid (N3 w b p x y z W') := by
  have hl : b < W.heap.size := Nat.lt_of_lt_of_le h.out.lt (Below.size h.out.since)
  exact Lib.hid ⟨h.out.since.step hs, h.out.lt, (Below.cell hs (p := ⟨b, p, none⟩) hl).trans h.out.c0, (Below.cell hs (p := ⟨b, p + 1, none⟩) hl).trans h.out.c1, (Below.cell hs (p := ⟨b, p + 2, none⟩) hl).trans h.out.c2⟩
theorem n3drew (h : Hid (N3 w b p x y z W)) : Hid (N3 w b p x y z W.drew) := n3step (Since.drew (Since.refl _)) h
theorem n3all (h : Hid (N3 w b p x y z W)) : Hid (N3 w b p x y z W) ∧ W.cell? ⟨b, p, none⟩ = some x ∧ W.cell? ⟨b, p + 1, none⟩ = some y ∧ W.cell? ⟨b, p + 2, none⟩ = some z := ⟨h, h.out.c0, h.out.c1, h.out.c2⟩
end
theorem bs_app (l m : List UInt8) : bs l ++ bs m = bs (l ++ m) := by
  apply ba_ext
  rw [app_list]
  rfl
def BytR (N : List Nd) (Bs : List (List UInt8)) (i : Nat) : Prop := ∀ x b, N[i]? = some x → Bs[i]? = some b → RdT 25 N (fun v => #[v, .int .i64 (i : Int)]) (.tuple #[.string (bs (el x b)), .bool true])
set_option maxRecDepth 100000 in
set_option maxHeartbeats 8000000 in
theorem bytes_step (N : List Nd) (Bs : List (List UInt8)) (S : List UInt8) (hW : Wr N Bs S) (hS : S.length ≤ 65000) (hn1 : N.length ≤ 1000) (i : Nat) (ih : ∀ j, i < j → j < N.length → BytR N Bs j) : BytR N Bs i := by
  intro x bd hx hbd w v h
  have hi : i < N.length := (List.getElem?_eq_some_iff.1 hx).1
  have HT := Lib.hid h
  obtain ⟨b, o, c, rfl, -, -, b1, b2⟩ := treeform h (by omega)
  obtain ⟨A, q, m0, m1, m2, m3, m4, m5⟩ := b2 i x hx
  have HS := Lib.hid (Since.refl w)
  have HN := Lib.hid (show N3 w b (o + i * 5) (.int .i64 x.c) (.int .i64 x.t) (.bool x.b) w from ⟨Since.refl w, b1, m0, m1, m2⟩)
  have B1 := Lib.hid b1
  have M3 := Lib.hid m3
  have M4 := Lib.hid m4
  have K5 := Lib.hid m5
  have i1 : (i : Int) < (N.length : Int) := by omega
  have i2 : (0 : Int) ≤ (i : Int) := by omega
  have hkl := IntsS.le K5.out
  obtain ⟨f1, f2⟩ := hW.body i x hx
  have hbd2 : bd = x.d.data.toList ++ elsAt N Bs x.k := Option.some.inj (hbd.symm.trans f1)
  have hbl : bd.length ≤ 65000 := Nat.le_trans (hW.bnd bd (List.mem_iff_getElem?.2 ⟨i, hbd⟩)) hS
  obtain ⟨C, T, hC, hT, C3, T3⟩ := hW.nd x (List.mem_iff_getElem?.2 ⟨i, hx⟩)
  have F2 := Lib.hid f2
  have HWR := Lib.hid hW
  have HBD := Lib.hid hbd2
  have HSS := Lib.hid hS
  have HIH := Lib.hid ih
  obtain ⟨xb, hxb⟩ : ∃ xb, xb = x.b := ⟨_, rfl⟩
  obtain ⟨D, hD⟩ : ∃ D, D = x.d := ⟨_, rfl⟩
  rw [hC, hT, ← hxb] at HN
  rw [← hD] at M3 m3
  obtain ⟨R, hR⟩ : ∃ R, R = bs (el x bd) := ⟨_, rfl⟩
  rw [← hR]
  have hR2 : R = bs (Head.encL C T xb bd.length) ++ bs bd := by
    rw [hR, bs_app, hxb]
    unfold el
    rw [hC, hT, Int.toNat_natCast, Int.toNat_natCast]
  have HR := Lib.hid hR2
  have HDD := Lib.hid hD
  clear h b2 m0 m1 m2 m4 m5 f1 f2 hW hS ih hx hbd hbd2 hR hR2 hC hT hxb b1 hD
  go_enter Try.func25, Try.ntmps25
  go_wp2_with fail
  clear m3
  go_loopw [6, 7] (fun s j wr => ∃ (a : Nat) (V : ByteArray), j = .int .i64 (a : Int) ∧ s = .string V ∧ a ≤ x.k.length ∧ Hid (V = bs (D.data.toList ++ elsAt N Bs (x.k.take a))) ∧ Hid (Since w wr)) (fun _ j _ => x.k.length - (intOf j).toNat)
  case atStart => exact ⟨0, D, rfl, rfl, Nat.zero_le _, Lib.hid (by show D = bs (D.data.toList ++ []); rw [List.append_nil, bs_list]), HS⟩
  case round =>
    clear HS
    obtain ⟨a, V, rfl, rfl, ha, hV, HS⟩ := hrel
    have m4 := (Below.cell HS.out (p := ⟨b, o + i * 5 + 4, none⟩) B1.out).trans M4.out
    by_cases hlt : a < x.k.length
    · obtain ⟨bk, ok, dk, hv, -, -, l3, l4⟩ := K5.out.form (by omega)
      obtain ⟨rfl, -, rfl⟩ := Value.slice.inj hv
      clear hv
      obtain ⟨y, hy⟩ : ∃ y, x.k[a]? = some y := ⟨_, List.getElem?_eq_getElem hlt⟩
      obtain ⟨r1, r2⟩ := F2.out y (List.mem_iff_getElem?.2 ⟨a, hy⟩)
      obtain ⟨qq, rfl⟩ : ∃ qq : Nat, y = (qq : Int) := ⟨y.toNat, by omega⟩
      have c9 := (Below.cell HS.out (p := ⟨bk, ok + a, none⟩) l3).trans (l4 a hlt)
      rw [show x.k.getD a 0 = (qq : Int) by simp [List.getD, hy]] at c9
      have hqn : qq < N.length := by omega
      obtain ⟨z, hz⟩ : ∃ z, N[qq]? = some z := ⟨_, List.getElem?_eq_getElem hqn⟩
      obtain ⟨bz, hbz⟩ : ∃ bz, Bs[qq]? = some bz := ⟨_, (HWR.out.body qq z hz).1⟩
      have cI := HIH.out qq (by omega) hqn z bz hz hbz
      obtain ⟨E, hE⟩ : ∃ E, E = bs (el z bz) := ⟨_, rfl⟩
      rw [← hE] at cI
      have hstep : V ++ E = bs (D.data.toList ++ elsAt N Bs (x.k.take (a + 1))) := by
        rw [hV.out, hE, bs_app, elsAt_snoc N Bs x.k a _ hy, Int.toNat_natCast, elAt_eq hz hbz, List.append_assoc]
      have hsz : (V ++ E).size ≤ 65000 := by
        rw [hstep, size_bs]
        refine Nat.le_trans ?_ hbl
        rw [HBD.out, HDD.out, List.length_append, List.length_append]
        refine Nat.add_le_add_left ?_ _
        conv => rhs; rw [← List.take_append_drop (a + 1) x.k]
        unfold elsAt
        rw [List.flatMap_append, List.length_append]
        omega
      have hsz2 := hsz
      rw [ByteArray.size_append] at hsz2
      have w1 : ¬ 9223372036854775807 < V.size + E.size := by omega
      have t1 : decide ((65535 : Int) < ((V ++ E).size : Int)) = false := decide_eq_false (by omega)
      have t2 : decide (65535 < (V ++ E).size) = false := decide_eq_false (by omega)
      have HST := Lib.hid hstep
      have HT2 := Lib.hid (HT.out.since HS.out)
      clear hy hz hbz hE hstep hsz hsz2 r1 r2 l4
      go_wp2_with fail
      refine cI.calls0 HT2.out ?_
      intro w2 h2
      replace HS := Lib.hid (HS.out.step h2)
      clear h2 c9 m4 cI
      obtain ⟨VE, hVE⟩ : ∃ VE, VE = V ++ E := ⟨_, rfl⟩
      rw [← hVE] at HST t1 t2
      have hVE2 := hVE.symm
      clear hVE
      go_wp2_with fail
      go_roundw
      case rel => exact ⟨a + 1, VE, by go_num, rfl, by omega, HST, HS⟩
      case measure => (simp [intOf] <;> omega)
    · obtain rfl : a = x.k.length := by omega
      have hV2 := hV.out
      rw [List.take_length, HDD.out, ← HBD.out] at hV2
      have hVs : V.size = bd.length := by rw [hV2, size_bs]
      obtain ⟨X, hX⟩ : ∃ X, X = bs (Head.encL C T xb V.size) := ⟨_, rfl⟩
      have hX7 := (Head.encL_len C T xb V.size)
      have hXs : X.size = (Head.encL C T xb V.size).length := by rw [hX, size_bs]
      have c5 := RefHead.renc_ok C T V.size xb C3 T3 (by omega) X hX
      have hfin : X ++ V = R := by rw [HR.out, hX, hV2, size_bs]
      have hXl : X.size ≤ 100 := by omega
      have w1 : ¬ 9223372036854775807 < X.size + V.size := by omega
      have t1 : decide ((X.size : Int) + (V.size : Int) ≤ 65535) = true := decide_eq_true (by omega)
      have t2 : decide (X.size + V.size ≤ 65535) = true := decide_eq_true (by omega)
      have hw : IntKind.i64.wrap ((X.size : Int) + (V.size : Int)) = (X.size : Int) + (V.size : Int) := IntWalk.i64_in _ (by omega)
      have hN := n3step HS.out HN
      have HF := Lib.hid hfin
      have hVb : V.size ≤ 65000 := by omega
      clear hX hX7 hXs hV2 hfin C3 T3 hbl hVs
      go_wp2_with fail
      obtain ⟨_, z0, z1, z2⟩ := n3all hN
      go_region_held3 (fun W' => Hid (N3 w b (o + i * 5) (.int .i64 (C : Int)) (.int .i64 (T : Int)) (.bool xb) W') ∧ W'.cell? ⟨b, o + i * 5, none⟩ = some (.int .i64 (C : Int)) ∧ W'.cell? ⟨b, o + i * 5 + 1, none⟩ = some (.int .i64 (T : Int)) ∧ W'.cell? ⟨b, o + i * 5 + 2, none⟩ = some (.bool xb))
        (first | exact n3all (by assumption) | exact n3all (n3drew (by assumption)))
        (first | (go_at_call 36; refine (c5 _).mono ?_; rintro e w5 ⟨rfl, h5⟩; have hN5 : Hid (N3 w b (o + i * 5) (.int .i64 (C : Int)) (.int .i64 (T : Int)) (.bool xb) w5) := n3step h5 (by first | assumption | exact n3drew (by assumption)); clear h5))
      all_goals
        clear z0 z1 z2 m4
        go_wp2_with fail
        go_ret2
        exact ⟨by rw [← HF.out]; rfl, hN5.out.since⟩
theorem bytes_all (N : List Nd) (Bs : List (List UInt8)) (S : List UInt8) (hW : Wr N Bs S) (hS : S.length ≤ 65000) (hn1 : N.length ≤ 1000) : ∀ m i, N.length - i ≤ m → BytR N Bs i := by
  intro m
  induction m with
  | zero =>
    intro i h x b hx
    have := (List.getElem?_eq_some_iff.1 hx).1
    omega
  | succ m ih => exact fun i h => bytes_step N Bs S hW hS hn1 i (fun j h1 h2 => ih j (by omega))
theorem bytes_root (N : List Nd) (Bs : List (List UInt8)) (S : List UInt8) (hW : Wr N Bs S) (hS : S.length ≤ 65000) (hn1 : N.length ≤ 1000) : RdT 25 N (fun v => #[v, .int .i64 0]) (.tuple #[.string (bs S), .bool true]) := by
  obtain ⟨y, hy⟩ : ∃ y, N[0]? = some y := ⟨_, List.getElem?_eq_getElem hW.pos⟩
  have h1 := bytes_all N Bs S hW hS hn1 _ 0 (Nat.le_refl _) y _ hy (hW.body 0 y hy).1
  rw [← elAt_eq hy (hW.body 0 y hy).1, hW.root] at h1
  exact h1
set_option maxRecDepth 100000 in
theorem renc_not (N : List Nd) (c1 : RdT 11 N (fun v => #[v]) (.bool false)) : RdT 9 N (fun v => #[v]) (.tuple #[.string ⟨#[]⟩, .int .i64 1]) := by
  intro w v h
  have HS := Lib.hid (Since.refl w)
  have HT := Lib.hid h
  clear h
  go_enter Try.func9, Try.ntmps9
  go_wp2_with fail
  refine c1.calls0 HT.out ?_
  intro w1 h1
  replace HS := Lib.hid (HS.out.step h1)
  clear h1
  go_wp2_with fail
  go_ret2
  exact ⟨rfl, HS.out⟩
set_option maxRecDepth 100000 in
theorem renc_yes (N : List Nd) (R : ByteArray) (c1 : RdT 11 N (fun v => #[v]) (.bool true)) (c2 : RdT 25 N (fun v => #[v, .int .i64 0]) (.tuple #[.string R, .bool true])) : RdT 9 N (fun v => #[v]) (.tuple #[.string R, .int .i64 0]) := by
  intro w v h
  have HS := Lib.hid (Since.refl w)
  have HT := Lib.hid h
  clear h
  go_enter Try.func9, Try.ntmps9
  go_wp2_with fail
  refine c1.calls0 HT.out ?_
  intro w1 h1
  replace HS := Lib.hid (HS.out.step h1)
  replace HT := Lib.hid (HT.out.since h1)
  clear h1
  go_wp2_with fail
  refine c2.calls0 HT.out ?_
  intro w2 h2
  replace HS := Lib.hid (HS.out.step h2)
  clear h2
  go_wp2_with fail
  go_ret2
  exact ⟨rfl, HS.out⟩
end Tree
end Go.Proofs.Ytjpjfdmcijleoaa

/- Package tlv: what the laws' awake asks. -/
namespace Go.Proofs.Ytjpjfdmcijleoaa
open Go.RowKit
namespace Tlv
open Span Flt Rw
theorem topA : topV ⟨#[48, 3, 2, 1, 5]⟩ = (0, 0, [⟨0, 16, true, ⟨#[]⟩, [1]⟩, ⟨0, 2, false, ⟨#[5]⟩, []⟩], [(0, 5), (2, 5)]) := by kernel_rfl
theorem topB : topV ⟨#[48, 128]⟩ = (5, 0, [], []) := by kernel_rfl
theorem bits25 : fl ((2 : Nat) : Int) = 4611686018427387904 ∧ fl ((5 : Nat) : Int) = 4617315517961601024 := by decide +kernel
theorem belowQ (w : World) (q : Nat) : Below w.heap.size w (w.drewN q) := ⟨rfl, rfl, rfl, Nat.le_refl _, fun _ _ => rfl⟩
set_option maxRecDepth 100000 in
theorem stillQ {f : Nat} {args : Array Value} {v : Value} (h : Ret f args v) (w : World) : Calls Try.prog f args w fun e w' => e = .returned v ∧ w' = w := (h w).mono fun _ _ ⟨he, hw⟩ => ⟨he, hw.symm⟩
end Tlv
end Go.Proofs.Ytjpjfdmcijleoaa
