/- The walks of package head: a tag that is read. -/
import Derived.Test.YtlcicpdnakmdnaaHeadR
import Derived.RegionTactic
import Derived.ChangeAlike
namespace Go.Proofs.Ytlcicpdnakmdnaa
open Go.RowKit
namespace Head

def hdV (c t : Nat) (b : Bool) (n : Nat) : Value := .agg #[.int .i64 (c : Int), .int .i64 (t : Int), .bool b, .int .i64 (n : Int)]
def tagV : Option (Nat × Nat × Bool × Nat) → Value
  | none => .tuple #[hdV 0 0 false 0, .int .i64 0, .bool false]
  | some (c, t, b, k) => .tuple #[hdV c t b 0, .int .i64 (k : Int), .bool true]
set_option maxRecDepth 100000 in
theorem and31 : ∀ n : Fin 256, bits .and .u8 ((n.1 : Nat) : Int) 31 = ((n.1 % 32 : Nat) : Int) := by decide
set_option maxRecDepth 100000 in
theorem and32 : ∀ n : Fin 256, bits .and .u8 ((n.1 : Nat) : Int) 32 = if n.1 / 32 % 2 = 1 then 32 else 0 := by decide

set_option maxRecDepth 100000 in
set_option maxHeartbeats 4000000 in
theorem rtag_0 (V : Value) (hV : V = tagV (tagR [])) : Mak 34 #[.string ⟨#[]⟩] V := by
  intro w
  subst hV
  go_enter Try.func34, Try.ntmps34
  go_wp2_with fail
  refine wp_scope_some 1 ?_
  go_wp2_with fail
  go_step3
  refine ⟨_, rfl, ?_⟩
  go_wp2_with fail
  (try simp only [Exit.jumps])
  exact bodyPost_ret (v := tagV none) (by simp [results, Try.results34, go_sem]; try rfl) rfl ⟨rfl, by first | exact ((Since.refl w).alloc _).alloc _ | exact (((Since.refl w).alloc _).alloc _).drew | exact ((((Since.refl w).alloc _).alloc _).drew).drew | exact (((((Since.refl w).alloc _).alloc _).drew).drew).drew | exact ((((((Since.refl w).alloc _).alloc _).drew).drew).drew).drew | exact (((((((Since.refl w).alloc _).alloc _).drew).drew).drew).drew).drew | exact H9.out⟩

set_option maxRecDepth 100000 in
set_option maxHeartbeats 4000000 in
theorem rtag_short (s : ByteArray) (hp : 0 < s.size) (_hm : s.size ≤ 1000000) (c t : Nat) (b : Bool) (hc : (s[0].toNat : Int) / 64 = (c : Int)) (ht : bits .and .u8 (s[0].toNat : Int) 31 = (t : Int)) (h31 : t < 31) (hb : bits .and .u8 (s[0].toNat : Int) 32 = if b then 32 else 0) : Mak 34 #[.string s] (tagV (some (c, t, b, 1))) := by
  intro w
  have hne := some_bytes_f s hp
  have hc3 : (c : Int) ≤ 3 := by have := s[0].toNat_lt; omega
  cases b with
  | true =>
    simp only [if_true] at hb
    go_enter Try.func34, Try.ntmps34
    go_wp2_with fail
    refine wp_scope_some 1 ?_
    go_wp2_with fail
    go_region
    go_wp2_with fail
    (try simp only [Exit.jumps])
    exact bodyPost_ret (v := tagV (some (c, t, true, 1))) (by simp [results, Try.results34, go_sem]; try rfl) rfl ⟨rfl, by first | exact ((Since.refl w).alloc _).alloc _ | exact (((Since.refl w).alloc _).alloc _).drew | exact ((((Since.refl w).alloc _).alloc _).drew).drew | exact (((((Since.refl w).alloc _).alloc _).drew).drew).drew | exact ((((((Since.refl w).alloc _).alloc _).drew).drew).drew).drew | exact (((((((Since.refl w).alloc _).alloc _).drew).drew).drew).drew).drew | exact H9.out⟩
  | false =>
    simp only [Bool.false_eq_true, if_false] at hb
    go_enter Try.func34, Try.ntmps34
    go_wp2_with fail
    refine wp_scope_some 1 ?_
    go_wp2_with fail
    go_region
    go_wp2_with fail
    (try simp only [Exit.jumps])
    exact bodyPost_ret (v := tagV (some (c, t, false, 1))) (by simp [results, Try.results34, go_sem]; try rfl) rfl ⟨rfl, by first | exact ((Since.refl w).alloc _).alloc _ | exact (((Since.refl w).alloc _).alloc _).drew | exact ((((Since.refl w).alloc _).alloc _).drew).drew | exact (((((Since.refl w).alloc _).alloc _).drew).drew).drew | exact ((((((Since.refl w).alloc _).alloc _).drew).drew).drew).drew | exact (((((((Since.refl w).alloc _).alloc _).drew).drew).drew).drew).drew | exact H9.out⟩

theorem set4 {W : World} {B : Nat} {x0 x1 x2 x3 : Value} (r0 : W.cell? ⟨B, 0, none⟩ = some x0) (r1 : W.cell? ⟨B, 1, none⟩ = some x1) (r2 : W.cell? ⟨B, 2, none⟩ = some x2) (r3 : W.cell? ⟨B, 3, none⟩ = some x3) (a b c d : Value) :
    (W.setCell ⟨B, 0, none⟩ a).cell? ⟨B, 0, none⟩ = some a ∧ ((W.setCell ⟨B, 0, none⟩ a).setCell ⟨B, 1, none⟩ b).cell? ⟨B, 1, none⟩ = some b ∧ (((W.setCell ⟨B, 0, none⟩ a).setCell ⟨B, 1, none⟩ b).setCell ⟨B, 2, none⟩ c).cell? ⟨B, 2, none⟩ = some c ∧
      ((((W.setCell ⟨B, 0, none⟩ a).setCell ⟨B, 1, none⟩ b).setCell ⟨B, 2, none⟩ c).setCell ⟨B, 3, none⟩ d).cell? ⟨B, 3, none⟩ = some d := by
  refine ⟨World.cell?_setCell_same _ _ _ r0, World.cell?_setCell_same _ _ _ (u := x1) ?_, World.cell?_setCell_same _ _ _ (u := x2) ?_, World.cell?_setCell_same _ _ _ (u := x3) ?_⟩
  · rw [World.cell?_setCell_other _ _ _ _ (by simp)]; exact r1
  · rw [World.cell?_setCell_other _ _ _ _ (by simp), World.cell?_setCell_other _ _ _ _ (by simp)]; exact r2
  · rw [World.cell?_setCell_other _ _ _ _ (by simp), World.cell?_setCell_other _ _ _ _ (by simp), World.cell?_setCell_other _ _ _ _ (by simp)]; exact r3
def chkT (c : Nat) (b : Bool) (l : List UInt8) : Option (Nat × Nat) → Value
  | none => tagV none
  | some (t, k) => if tagL c t b = l.take (k + 1) then tagV (some (c, t, b, k + 1)) else tagV none
theorem tagV_cons (x : UInt8) (l : List UInt8) (h : ¬ x.toNat % 32 < 31) : tagV (tagR (x :: l)) = chkT (x.toNat / 64) (decide (x.toNat / 32 % 2 = 1)) (x :: l) (digR l) := by
  simp only [tagR, h, if_false]
  cases digR l with
  | none => rfl
  | some p =>
    show tagV (if _ then _ else _) = if _ then _ else _
    split <;> rfl
theorem digR_1 (x : UInt8) (l : List UInt8) (h : x.toNat < 128) : digR (x :: l) = some (x.toNat, 1) := by simp [digR, h]
theorem digR_1n (x : UInt8) (h : ¬ x.toNat < 128) : digR [x] = none := by simp [digR, h]
theorem digR_2 (x y : UInt8) (l : List UInt8) (h : ¬ x.toNat < 128) (h2 : y.toNat < 128) : digR (x :: y :: l) = some (128 * (x.toNat - 128) + y.toNat, 2) := by simp [digR, h, h2]
theorem digR_2n (x y : UInt8) (h : ¬ x.toNat < 128) (h2 : ¬ y.toNat < 128) : digR [x, y] = none := by simp [digR, h, h2]
theorem digR_3 (x y z : UInt8) (l : List UInt8) (h : ¬ x.toNat < 128) (h2 : ¬ y.toNat < 128) (h3 : z.toNat < 128) : digR (x :: y :: z :: l) = some (128 * (128 * (x.toNat - 128) + (y.toNat - 128)) + z.toNat, 3) := by simp [digR, h, h2, h3]
theorem digR_3n (x y z : UInt8) (l : List UInt8) (h : ¬ x.toNat < 128) (h2 : ¬ y.toNat < 128) (h3 : ¬ z.toNat < 128) : digR (x :: y :: z :: l) = none := by simp [digR, h, h2, h3]
end Head
end Go.Proofs.Ytlcicpdnakmdnaa
