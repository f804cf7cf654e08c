/- Joined texts. -/
-- PACK: YtefoonegobcoaaaEq3 YtefoonegobcoaaaScan YtefoonegobcoaaaEq4
import Derived.Test.YtefoonegobcoaaaPk22
import Derived.Test.YtefoonegobcoaaaPk5
import Derived.Laws.BytesArg

/- Package equal: Scan, Nought, Pick. -/
namespace Go.Proofs.Ytefoonegobcoaaa
open Go.RowKit
namespace Eql

/-- all sixteen cells are 0 -/
def allZ (f : Nat → Nat) : Bool := (List.range 16).all fun j => f j == 0
theorem allZ_iff (f : Nat → Nat) : allZ f = true ↔ ∀ j, j < 16 → f j = 0 := by
  unfold allZ
  rw [List.all_eq_true]
  constructor
  · intro h j hj; exact beq_iff_eq.1 (h j (List.mem_range.2 hj))
  · intro h j hj; exact beq_iff_eq.2 (h j (List.mem_range.1 hj))

theorem since_drewN {W0 w : World} (h : Since W0 w) (n : Nat) : Since W0 (w.drewN n) := h.step ⟨rfl, rfl, rfl, Nat.le_refl _, fun _ _ => rfl⟩
theorem eq16 (f : Nat → Nat) : ∀ w : World, (Op.equalIn 10000 61 (.agg #[.int .u8 (f 0 : Nat), .int .u8 (f 1 : Nat), .int .u8 (f 2 : Nat), .int .u8 (f 3 : Nat), .int .u8 (f 4 : Nat), .int .u8 (f 5 : Nat), .int .u8 (f 6 : Nat), .int .u8 (f 7 : Nat), .int .u8 (f 8 : Nat), .int .u8 (f 9 : Nat), .int .u8 (f 10 : Nat), .int .u8 (f 11 : Nat), .int .u8 (f 12 : Nat), .int .u8 (f 13 : Nat), .int .u8 (f 14 : Nat), .int .u8 (f 15 : Nat)])
    (.agg #[.int .u8 0, .int .u8 0, .int .u8 0, .int .u8 0, .int .u8 0, .int .u8 0, .int .u8 0, .int .u8 0, .int .u8 0, .int .u8 0, .int .u8 0, .int .u8 0, .int .u8 0, .int .u8 0, .int .u8 0, .int .u8 0])).run Try.prog w = .ok (allZ f) w := by
  intro w
  have h := run_equalIn_array (P := Try.prog) w 9998 61 5 16 .u8 #[.int .u8 (f 0 : Nat), .int .u8 (f 1 : Nat), .int .u8 (f 2 : Nat), .int .u8 (f 3 : Nat), .int .u8 (f 4 : Nat), .int .u8 (f 5 : Nat), .int .u8 (f 6 : Nat), .int .u8 (f 7 : Nat), .int .u8 (f 8 : Nat), .int .u8 (f 9 : Nat), .int .u8 (f 10 : Nat), .int .u8 (f 11 : Nat), .int .u8 (f 12 : Nat), .int .u8 (f 13 : Nat), .int .u8 (f 14 : Nat), .int .u8 (f 15 : Nat)]
    #[.int .u8 0, .int .u8 0, .int .u8 0, .int .u8 0, .int .u8 0, .int .u8 0, .int .u8 0, .int .u8 0, .int .u8 0, .int .u8 0, .int .u8 0, .int .u8 0, .int .u8 0, .int .u8 0, .int .u8 0, .int .u8 0] (fun i => (f i : Nat)) (fun _ => 0) (by kernel_rfl) (by kernel_rfl) (fun w => by kernel_rfl) (fun w => by kernel_rfl)
    (fun i hi => by
        match i, hi with
        | 0, _ | 1, _ | 2, _ | 3, _ | 4, _ | 5, _ | 6, _ | 7, _ | 8, _ | 9, _ | 10, _ | 11, _ | 12, _ | 13, _ | 14, _ | 15, _ => rfl
        | n + 16, hi => omega)
    (fun i hi => by
        match i, hi with
        | 0, _ | 1, _ | 2, _ | 3, _ | 4, _ | 5, _ | 6, _ | 7, _ | 8, _ | 9, _ | 10, _ | 11, _ | 12, _ | 13, _ | 14, _ | 15, _ => rfl
        | n + 16, hi => omega)
  have he : ((List.range 16).all fun i => ((f i : Nat) : Int) == 0) = allZ f := by
    unfold allZ
    congr 1
    funext i
    rw [Bool.eq_iff_iff]
    simp
  rw [he] at h
  exact h

set_option maxRecDepth 100000 in
set_option maxHeartbeats 2000000 in
theorem scan_any (a b : ByteArray) (hm : a.size ≤ 140737488355327) (hm2 : b.size ≤ 140737488355327) (n : Nat) (hn : n = max a.size b.size) (B : Bool) (hB : B = decide (unl a.data.toList b.data.toList n = 0)) : Mak 44 #[.string a, .string b] (.tuple #[.bool B, .int .i64 (n : Int)]) := by
  intro w
  have hz : allZ (fun j => orA a.data.toList b.data.toList j n) = B := by
    rw [hB]
    by_cases h : unl a.data.toList b.data.toList n = 0
    · rw [decide_eq_true h, allZ_iff]; exact (orA_zero _ _ _).2 h
    · rw [decide_eq_false h]
      cases hc : allZ (fun j => orA a.data.toList b.data.toList j n) with
      | false => rfl
      | true => exact absurd ((orA_zero _ _ _).1 ((allZ_iff _).1 hc)) h
  have hz16 : (w.alloc (.cells #[.int .u8 0, .int .u8 0, .int .u8 0, .int .u8 0, .int .u8 0, .int .u8 0, .int .u8 0, .int .u8 0, .int .u8 0, .int .u8 0, .int .u8 0, .int .u8 0, .int .u8 0, .int .u8 0, .int .u8 0, .int .u8 0] 61)).rowIs w.heap.size 61 16 (fun _ => .int .u8 0) :=
    World.rowIs_alloc w _ _ (fun _ => .int .u8 0) (fun i hi => by
        match i, hi with
        | 0, _ | 1, _ | 2, _ | 3, _ | 4, _ | 5, _ | 6, _ | 7, _ | 8, _ | 9, _ | 10, _ | 11, _ | 12, _ | 13, _ | 14, _ | 15, _ => rfl
        | n + 16, hi => simp at hi; omega)
  have hcall := each_scan a b n hn (by omega) (by omega) (.pointer (some ⟨w.heap.size, 0, none⟩)) (.pointer (some ⟨w.heap.size + 1, 0, none⟩))
    (fun i w' => (Bits w' w.heap.size (fun j => orA a.data.toList b.data.toList j i) ∧ Cnt w' (w.heap.size + 1) (i : Nat)) ∧ Since w w')
    (fun i w' h => ⟨⟨World.rowIs.drew h.1.1, World.rowIs.drew h.1.2⟩, Since.drew h.2⟩)
    (fun i w' hi h => scan1 i _ _ i _ (fun j => orA a.data.toList b.data.toList j (i + 1)) w' w h.1.1 h.1.2 (by omega) (by omega) (df_lt _ _ _) (fun j => orA_lt _ _ _ _) (Nat.le_refl _) h.2 (fun j => rfl))
    ((w.alloc (.cells #[.int .u8 0, .int .u8 0, .int .u8 0, .int .u8 0, .int .u8 0, .int .u8 0, .int .u8 0, .int .u8 0, .int .u8 0, .int .u8 0, .int .u8 0, .int .u8 0, .int .u8 0, .int .u8 0, .int .u8 0, .int .u8 0] 61)).alloc (.cells #[.int .i64 0] 3))
    ⟨⟨(World.rowIs.alloc hz16 _).congr (fun j _ => rfl), by
      have h := World.rowIs_alloc (w.alloc (.cells #[.int .u8 0, .int .u8 0, .int .u8 0, .int .u8 0, .int .u8 0, .int .u8 0, .int .u8 0, .int .u8 0, .int .u8 0, .int .u8 0, .int .u8 0, .int .u8 0, .int .u8 0, .int .u8 0, .int .u8 0, .int .u8 0] 61)) #[.int .i64 0] 3 (fun _ => .int .i64 0) (fun i hi => by
        obtain rfl : i = 0 := by simp at hi; omega
        rfl)
      simpa [Cnt] using h⟩, ((Since.refl w).alloc _).alloc _⟩
  have HC := Lib.hid hcall
  have Hz := Lib.hid hz
  clear hz
  have Hn := Lib.hid hn
  clear hn
  clear hcall hz16 hB
  go_enter Try.func44, Try.ntmps44
  go_wp2_with fail
  refine HC.out.mono ?_
  rintro e w2 ⟨rfl, ⟨hb, hc⟩, hs⟩
  have hcell := World.rowIs.cell hc (i := 0) (by decide)
  obtain ⟨f, hf⟩ : ∃ f : Nat → Nat, f = fun j => orA a.data.toList b.data.toList j n := ⟨_, rfl⟩
  rw [← hf] at hb
  have hzz : allZ f = B := by rw [hf]; exact Hz.out
  clear hf
  have k0 := World.rowIs.cell hb (i := 0) (by decide)
  have k1 := World.rowIs.cell hb (i := 1) (by decide)
  have k2 := World.rowIs.cell hb (i := 2) (by decide)
  have k3 := World.rowIs.cell hb (i := 3) (by decide)
  have k4 := World.rowIs.cell hb (i := 4) (by decide)
  have k5 := World.rowIs.cell hb (i := 5) (by decide)
  have k6 := World.rowIs.cell hb (i := 6) (by decide)
  have k7 := World.rowIs.cell hb (i := 7) (by decide)
  have k8 := World.rowIs.cell hb (i := 8) (by decide)
  have k9 := World.rowIs.cell hb (i := 9) (by decide)
  have k10 := World.rowIs.cell hb (i := 10) (by decide)
  have k11 := World.rowIs.cell hb (i := 11) (by decide)
  have k12 := World.rowIs.cell hb (i := 12) (by decide)
  have k13 := World.rowIs.cell hb (i := 13) (by decide)
  have k14 := World.rowIs.cell hb (i := 14) (by decide)
  have k15 := World.rowIs.cell hb (i := 15) (by decide)
  have Hb := Lib.hid hb
  clear hb
  have Hc := Lib.hid hc
  clear hc
  have Hs := Lib.hid hs
  clear hs
  have Hzz := Lib.hid hzz
  clear hzz
  have heq := eq16 f
  rw [Hzz.out] at heq
  go_wp2_with fail
  go_quiet (fail)
  go_wp2_with fail
  go_ret2
  exact ⟨rfl, since_drewN Hs.out _⟩
end Eql
end Go.Proofs.Ytefoonegobcoaaa

/- equal.Scan: whether two texts are the same. -/
namespace Go.Proofs.Ytefoonegobcoaaa
open Go.RowKit
namespace Scan
open Eql
theorem unl_self (a : List UInt8) (n : Nat) (h : n ≤ a.length) : unl a a n = 0 := by
  induction n with
  | zero => rfl
  | succ n ih =>
    show unl a a n + _ = 0
    have hd : df a a n = 0 := by unfold df; rw [if_pos ⟨by omega, by omega⟩, Nat.xor_self]
    rw [ih (by omega), if_pos hd]
theorem unl_zero (a b : List UInt8) (n : Nat) (h : unl a b n = 0) : ∀ i, i < n → df a b i = 0 := by
  induction n with
  | zero => intro i hi; omega
  | succ n ih =>
    have h0 : unl a b n + (if df a b n = 0 then 0 else 1) = 0 := h
    intro i hi
    by_cases hin : i = n
    · subst hin
      apply Classical.byContradiction
      intro h3
      rw [if_neg h3] at h0
      omega
    · exact ih (by omega) i (by omega)
theorem unl_eq (a b : List UInt8) (h : unl a b (max a.length b.length) = 0) : a = b := by
  have h1 := unl_zero a b _ h
  have hl : a.length = b.length := by
    apply Classical.byContradiction
    intro hne
    have h2 := h1 (min a.length b.length) (by omega)
    unfold df at h2
    rw [if_neg (by omega)] at h2
    cases h2
  apply List.ext_getElem hl
  intro i ha hb
  have h2 := h1 i (by omega)
  unfold df at h2
  rw [if_pos ⟨ha, hb⟩] at h2
  have h3 : (a.getD i 0).toNat = (b.getD i 0).toNat := by
    have h4 : (a.getD i 0).toNat ^^^ (b.getD i 0).toNat ^^^ (b.getD i 0).toNat = (b.getD i 0).toNat := by rw [h2, Nat.zero_xor]
    rwa [Nat.xor_assoc, Nat.xor_self, Nat.xor_zero] at h4
  have h5 := UInt8.toNat_inj.1 h3
  simpa [List.getD, ha, hb] using h5
theorem scan_m (a b : ByteArray) (hm : a.size ≤ 140737488355327) (hm2 : b.size ≤ 140737488355327) (q : Bool) (hq : q = decide (a = b)) : ∃ n : Int, Mak 44 #[.string a, .string b] (.tuple #[.bool q, .int .i64 n]) := by
  refine ⟨_, scan_any a b hm hm2 _ rfl q ?_⟩
  rw [hq]
  congr 1
  refine propext ⟨fun h => ?_, fun h => ?_⟩
  · subst h
    rw [Nat.max_self]
    exact unl_self _ _ (Nat.le_refl _)
  · exact ba_ext (unl_eq _ _ h)
end Scan
end Go.Proofs.Ytefoonegobcoaaa

/- Package equal: Nought, Pick. -/
namespace Go.Proofs.Ytefoonegobcoaaa
open Go.RowKit
namespace Eql

def zs (l : List UInt8) : List UInt8 := List.replicate l.length 0
theorem df_zs (l : List UInt8) (i : Nat) (h : i < l.length) : df l (zs l) i = l[i].toNat := by
  unfold df zs
  rw [if_pos ⟨h, by simpa using h⟩]
  simp [List.getD, h]

set_option maxRecDepth 100000 in
set_option maxHeartbeats 2000000 in
theorem nought_any (s : ByteArray) (hm : s.size ≤ 140737488355327) (B : Bool) (hB : B = decide (unl s.data.toList (zs s.data.toList) s.size = 0)) : Mak 49 #[.string s] (.tuple #[.bool B, .int .i64 (s.size : Int)]) := by
  intro w
  have hz : allZ (fun j => orA s.data.toList (zs s.data.toList) j s.size) = B := by
    rw [hB]
    by_cases h : unl s.data.toList (zs s.data.toList) s.size = 0
    · rw [decide_eq_true h, allZ_iff]; exact (orA_zero _ _ _).2 h
    · rw [decide_eq_false h]
      cases hc : allZ (fun j => orA s.data.toList (zs s.data.toList) j s.size) with
      | false => rfl
      | true => exact absurd ((orA_zero _ _ _).1 ((allZ_iff _).1 hc)) h
  have HZ := Lib.hid hz
  clear hz hB
  go_enter Try.func49, Try.ntmps49
  go_wp2_with fail
  go_loopw [8] (fun i wr => ∃ k : Nat, k ≤ s.size ∧ i = .int .i64 (k : Int) ∧ Hid (Bits wr w.heap.size (fun j => orA s.data.toList (zs s.data.toList) j k)) ∧ Hid (Since w wr)) (fun i _ => s.size - (intOf i).toNat)
  case atStart =>
    refine ⟨0, by omega, rfl, Lib.hid ?_, Lib.hid ((Since.refl w).alloc _)⟩
    exact World.rowIs_alloc w _ _ (fun j => .int .u8 (orA s.data.toList (zs s.data.toList) j 0 : Nat)) (fun i hi => by
        match i, hi with
        | 0, _ | 1, _ | 2, _ | 3, _ | 4, _ | 5, _ | 6, _ | 7, _ | 8, _ | 9, _ | 10, _ | 11, _ | 12, _ | 13, _ | 14, _ | 15, _ => rfl
        | n + 16, hi => simp at hi; omega)
  case round =>
    obtain ⟨k, hk, rfl, HR, HS⟩ := hrel
    by_cases hlt : k < s.size
    · obtain ⟨r, hr⟩ : ∃ r, r = k % 16 := ⟨_, rfl⟩
      have hr2 : r < 16 := by omega
      have hri : (k : Int) % 16 = (r : Int) := by omega
      have hcell2 : wr.cell? ⟨w.heap.size, r, none⟩ = some (.int .u8 ((orA s.data.toList (zs s.data.toList) r k : Nat) : Int)) := World.rowIs.cell HR.out (i := r) hr2
      have hfr2 := World.rowIs.frozen HR.out r
      have hlt9 : k < s.data.toList.length := hlt
      have hd : df s.data.toList (zs s.data.toList) k = s[k].toNat := df_zs _ k hlt9
      have hg : ∀ j, orA s.data.toList (zs s.data.toList) j (k + 1) = if r = j then orA s.data.toList (zs s.data.toList) j k ||| s[k].toNat else orA s.data.toList (zs s.data.toList) j k := fun j => by
        rw [← hd, hr]; rfl
      have ho : bits .or .u8 ((orA s.data.toList (zs s.data.toList) r k : Nat) : Int) (s[k].toNat : Int) = ((orA s.data.toList (zs s.data.toList) r (k + 1) : Nat) : Int) := by
        rw [u8_or_nat _ _ (orA_lt _ _ _ _) s[k].toNat_lt, hg r, if_pos rfl]
      obtain ⟨x, hx⟩ : ∃ x, x = orA s.data.toList (zs s.data.toList) r k := ⟨_, rfl⟩
      obtain ⟨y, hy⟩ : ∃ y, y = orA s.data.toList (zs s.data.toList) r (k + 1) := ⟨_, rfl⟩
      rw [← hx] at hcell2 ho
      rw [← hy] at ho
      have hc := s[k].toNat_lt
      have Hx := Lib.hid hx
      clear hx
      have Hy := Lib.hid hy
      clear hy
      have Ho := Lib.hid ho
      clear ho
      have Hd := Lib.hid hd
      clear hd
      have Hg := Lib.hid hg
      clear hg
      have Hr := Lib.hid hr
      clear hr
      go_wp2_with fail
      go_region
      go_wp2_with fail
      go_roundw
      case rel =>
        refine ⟨k + 1, by omega, by go_num, Lib.hid ?_, Lib.hid (Since.drew (Below.setCell HS.out (p := ⟨w.heap.size, r, none⟩) (Nat.le_refl _) _))⟩
        rw [Ho.out]
        exact World.rowIs.drew ((World.rowIs.set HR.out r _).congr (fun j hj => by
          by_cases hjr : j = r
          · rw [if_pos hjr, hjr, Hy.out]
          · rw [if_neg hjr]
            show Value.int .u8 ((orA s.data.toList (zs s.data.toList) j k : Nat) : Int) = Value.int .u8 ((orA s.data.toList (zs s.data.toList) j (k + 1) : Nat) : Int)
            rw [Hg.out j, if_neg (fun h => hjr h.symm)]))
      case measure => simp [intOf]; omega
    · obtain rfl : k = s.size := by omega
      have hb := HR.out
      obtain ⟨f, hf⟩ : ∃ f : Nat → Nat, f = fun j => orA s.data.toList (zs s.data.toList) j s.size := ⟨_, rfl⟩
      rw [← hf] at hb
      have hzz : allZ f = B := by rw [hf]; exact HZ.out
      clear hf
      have k0 := World.rowIs.cell hb (i := 0) (by decide)
      have k1 := World.rowIs.cell hb (i := 1) (by decide)
      have k2 := World.rowIs.cell hb (i := 2) (by decide)
      have k3 := World.rowIs.cell hb (i := 3) (by decide)
      have k4 := World.rowIs.cell hb (i := 4) (by decide)
      have k5 := World.rowIs.cell hb (i := 5) (by decide)
      have k6 := World.rowIs.cell hb (i := 6) (by decide)
      have k7 := World.rowIs.cell hb (i := 7) (by decide)
      have k8 := World.rowIs.cell hb (i := 8) (by decide)
      have k9 := World.rowIs.cell hb (i := 9) (by decide)
      have k10 := World.rowIs.cell hb (i := 10) (by decide)
      have k11 := World.rowIs.cell hb (i := 11) (by decide)
      have k12 := World.rowIs.cell hb (i := 12) (by decide)
      have k13 := World.rowIs.cell hb (i := 13) (by decide)
      have k14 := World.rowIs.cell hb (i := 14) (by decide)
      have k15 := World.rowIs.cell hb (i := 15) (by decide)
      have heq := eq16 f
      rw [hzz] at heq
      have Hb := Lib.hid hb
      clear hb
      have Hzz := Lib.hid hzz
      clear hzz
      go_wp2_with fail
      go_ret2
      exact ⟨rfl, HS.out⟩

theorem and255 (a : Nat) (h : a < 256) : bits .and .u8 (a : Int) 255 = (a : Int) := by
  have h1 := u8_and_nat a 255 h (by decide)
  have h2 : a &&& 255 = a := by rw [show (255 : Nat) = 2 ^ 8 - 1 from rfl, Nat.and_two_pow_sub_one_eq_mod]; omega
  rw [h2] at h1
  exact h1
theorem and0 (a : Nat) (h : a < 256) : bits .and .u8 (a : Int) 0 = 0 := by
  have h1 := u8_and_nat a 0 h (by decide)
  rw [Nat.and_zero] at h1
  exact h1
theorem andNot255 (a : Nat) (h : a < 256) : bits .andNot .u8 (a : Int) 255 = 0 := by
  have h1 := u8_andNot_nat a 255 h (by decide)
  rw [Nat.sub_self, Nat.and_zero] at h1
  exact h1
theorem andNot0 (a : Nat) (h : a < 256) : bits .andNot .u8 (a : Int) 0 = (a : Int) := by
  have h1 := u8_andNot_nat a 0 h (by decide)
  have h2 : a &&& 255 = a := by rw [show (255 : Nat) = 2 ^ 8 - 1 from rfl, Nat.and_two_pow_sub_one_eq_mod]; omega
  rw [Nat.sub_zero, h2] at h1
  exact h1
theorem or0 (a : Nat) (h : a < 256) : bits .or .u8 (a : Int) 0 = (a : Int) := by
  have h1 := u8_or_nat a 0 h (by decide)
  rw [Nat.or_zero] at h1
  exact h1
theorem zor (a : Nat) (h : a < 256) : bits .or .u8 0 (a : Int) = (a : Int) := by
  have h1 := u8_or_nat 0 a (by decide) h
  rw [Nat.zero_or] at h1
  exact h1

end Eql
end Go.Proofs.Ytefoonegobcoaaa
