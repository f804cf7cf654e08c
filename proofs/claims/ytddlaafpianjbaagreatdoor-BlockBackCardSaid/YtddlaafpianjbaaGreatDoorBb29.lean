/- Joined texts. -/
-- PACK: YtddlaafpianjbaaGreatDoorRefKdf YtddlaafpianjbaaGreatDoorKdfAwake YtddlaafpianjbaaGreatDoorDer YtddlaafpianjbaaGreatDoorDerIn YtddlaafpianjbaaGreatDoorDer2 YtddlaafpianjbaaGreatDoorRefDer YtddlaafpianjbaaGreatDoorRefCbc YtddlaafpianjbaaGreatDoorCbcAwake
import Derived.Test.YtddlaafpianjbaaGreatDoorBb28
import Derived.Test.YtddlaafpianjbaaGreatDoorBb23
import Derived.Test.YtddlaafpianjbaaGreatDoorBb5
import Derived.StillTailTactics

/- The reference of kdf. -/
namespace Go.Proofs.YtddlaafpianjbaaGreatDoor
open Go.RowKit
namespace RefKdf
open Rnd Aes Cmac Kdf

end RefKdf
end Go.Proofs.YtddlaafpianjbaaGreatDoor

/- What the law calls awake, for layer 12. -/
namespace Go.Proofs.YtddlaafpianjbaaGreatDoor
open Go.RowKit
namespace Kdf
open Rnd Aes Cmac
def kKey : ByteArray := ⟨#[48, 49, 50, 51, 52, 53, 54, 55, 56, 57, 97, 98, 99, 100, 101, 102]⟩
def kX : ByteArray := ⟨#[120]⟩
end Kdf
end Go.Proofs.YtddlaafpianjbaaGreatDoor

/- Package derive: plain mathematics; Input where there is none. -/
namespace Go.Proofs.YtddlaafpianjbaaGreatDoor
open Go.RowKit
namespace Der
open Rnd Aes Cmac Kdf

/-- the text for a purpose, of n bytes -/
def inpS (p n : Nat) : ByteArray := ⟨#[0, UInt8.ofNat p, 0, 0, UInt8.ofNat (n / 8), UInt8.ofNat (8 * n / 256), UInt8.ofNat (8 * n % 256)]⟩
/-- the key for a purpose -/
def derK (key : ByteArray) (p : Nat) : ByteArray := cntK key (inpS p key.size) (key.size : Int)
theorem derK_size (key : ByteArray) (hk : keyOk key) (p : Nat) : (derK key p).size = key.size := by
  unfold derK cntK keyOk at *
  rw [size_bs, List.length_take, outL_len, Int.toNat_natCast]
  unfold rndN
  rw [if_neg (by omega), Int.toNat_natCast]
  omega
theorem derK_ok (key : ByteArray) (hk : keyOk key) (p : Nat) : keyOk (derK key p) := by
  have h := derK_size key hk p
  unfold keyOk at *
  rw [h]; exact hk
theorem rounds_key (key : ByteArray) (hk : keyOk key) : ∃ x : Int, (x == 0) = false ∧ Ret 23 #[.int .i64 (key.size : Int)] (.int .i64 x) := by
  unfold keyOk at hk
  exact ⟨((key.size / 4 + 6 : Nat) : Int), by rw [beq_eq_false_iff_ne]; omega, Sched.rounds_yes key.size hk _ rfl⟩
theorem rounds_nokey (key : ByteArray) (hk : ¬ keyOk key) : Ret 23 #[.int .i64 (key.size : Int)] (.int .i64 0) := by
  unfold keyOk at hk
  exact Sched.rounds_no _ (by omega)
end Der
end Go.Proofs.YtddlaafpianjbaaGreatDoor

/- Package derive: Input. -/
namespace Go.Proofs.YtddlaafpianjbaaGreatDoor
open Go.RowKit
namespace Der
open Rnd Aes Cmac Kdf

theorem put2_lit (m : Nat) (hm : m < 65536) : strOfNums (Oct.putL (m : Int) 2) = ⟨#[UInt8.ofNat (m / 256), UInt8.ofNat (m % 256)]⟩ := by
  have h1 : ((m : Int) / 256 % 256).toNat = m / 256 := by omega
  have h2 : ((m : Int) % 256).toNat = m % 256 := by omega
  apply ba_ext
  rw [nums_list]
  show [UInt8.ofNat ((m : Int) / 2 ^ 8 % 256).toNat, UInt8.ofNat ((m : Int) / 2 ^ 0 % 256).toNat] = _
  rw [show ((2 : Int) ^ 8) = 256 from rfl, show ((2 : Int) ^ 0) = 1 from rfl, Int.ediv_one, h1, h2]
theorem putp (m : Nat) (hm : m < 65536) (X : ByteArray) (hX : X = ⟨#[UInt8.ofNat (m / 256), UInt8.ofNat (m % 256)]⟩) : Mak 57 #[.int .u64 (m : Int), .int .i64 2] (.string X) := fun w => by
  rw [hX, ← put2_lit m hm]
  exact Oct.put_mid (m : Int) 2 w (by omega) (by omega) (by decide) (by decide)
set_option maxRecDepth 100000 in
theorem sl7 (b k : Nat) (hk : k = 0 ∨ k = 3 ∨ k = 5) (w : World) : (Instr.sliceAt 195 (.pointer (some ⟨b, 0, none⟩)) (some (.int .i64 (k : Int))) none none).run Tryz.prog w = .ok (.slice (some ⟨b, k, none⟩) (7 - k) (7 - k)) w := by
  rcases hk with rfl | rfl | rfl <;> kernel_rfl
set_option maxRecDepth 100000 in
theorem sl7a (b : Nat) (w : World) : (Instr.sliceAt 195 (.pointer (some ⟨b, 0, none⟩)) none none none).run Tryz.prog w = .ok (.slice (some ⟨b, 0, none⟩) 7 7) w := by kernel_rfl
def row7 (A B C : ByteArray) : Nat → Value := putAt (putAt (putAt (fun _ => .int .u8 0) 0 A.data.toList) 3 B.data.toList) 5 C.data.toList
theorem row_since {w w' : World} {b t n : Nat} {f : Nat → Value} (h : w.rowIs b t n f) (hs : Below w.heap.size w w') : w'.rowIs b t n f := h.of_block (hs.block b h.lt)

set_option maxRecDepth 100000 in
set_option maxHeartbeats 400000 in
theorem input_16 (p x : Int) (A B C X : ByteArray) (hA : A.size = 2) (hB : B.size = 2) (hC : C.size = 2) (t1 : decide (p < 0) = false) (t2 : decide ((1 : Int) < p) = false) (hx : (x == 0) = false)
    (c0 : Ret 23 #[.int .i64 16] (.int .i64 x)) (e1 : IntKind.u64.wrap p = p)
    (c1 : Mak 57 #[.int .u64 p, .int .i64 2] (.string A)) (c2 : Mak 57 #[.int .u64 2, .int .i64 2] (.string B)) (c3 : Mak 57 #[.int .u64 128, .int .i64 2] (.string C))
    (xs : List Int) (hl : xs.length = 7) (hcl : ∀ i, i < 7 → row7 A B C i = .int .u8 (xs.getD i 0)) (hX : X = strOfNums xs) :
    Mak 151 #[.int .i64 p, .int .i64 16] (.string X) := by
  intro w
  obtain ⟨W, hW⟩ : ∃ W, W = w.alloc (.cells #[.int .u8 0, .int .u8 0, .int .u8 0, .int .u8 0, .int .u8 0, .int .u8 0, .int .u8 0] 195) := ⟨_, rfl⟩
  have hs0 : Since w W := by rw [hW]; exact (Since.refl w).alloc _
  have hr0 : W.rowIs w.heap.size 195 7 (fun _ => .int .u8 0) := by
    rw [hW]
    exact World.rowIs_alloc w _ _ (fun _ => .int .u8 0) (fun i hi => by
      match i, hi with
      | 0, _ | 1, _ | 2, _ | 3, _ | 4, _ | 5, _ | 6, _ => rfl
      | n + 7, hi => simp at hi; omega)
  have HR0 := Lib.hid hr0
  have HS := Lib.hid hs0
  have s0 : ∀ W, (Instr.sliceAt 195 (.pointer (some ⟨w.heap.size, 0, none⟩)) (some (.int .i64 0)) none none).run Tryz.prog W = .ok (.slice (some ⟨w.heap.size, 0, none⟩) 7 7) W := sl7 w.heap.size 0 (by decide)
  have s3 : ∀ W, (Instr.sliceAt 195 (.pointer (some ⟨w.heap.size, 0, none⟩)) (some (.int .i64 3)) none none).run Tryz.prog W = .ok (.slice (some ⟨w.heap.size, 3, none⟩) 4 4) W := sl7 w.heap.size 3 (by decide)
  have s5 : ∀ W, (Instr.sliceAt 195 (.pointer (some ⟨w.heap.size, 0, none⟩)) (some (.int .i64 5)) none none).run Tryz.prog W = .ok (.slice (some ⟨w.heap.size, 5, none⟩) 2 2) W := sl7 w.heap.size 5 (by decide)
  have sa := sl7a w.heap.size
  have HX := Lib.hid hX
  have HL := Lib.hid hl
  have HC := Lib.hid hcl
  have HAs := Lib.hid hA
  have HBs := Lib.hid hB
  have HCs := Lib.hid hC
  clear hs0 hr0 hX hl hcl
  go_enter Tryz.func151, Tryz.ntmps151
  go_wp2_with fail
  refine (c0).calls ?_
  go_wp2_with fail
  rw [← hW]
  clear hW
  go_region_law (first
    | (go_simp; go_at_call 57; refine (c1 _).mono ?_; rintro e w1 ⟨rfl, hc⟩; have hr := row_since HR0.out.drew hc; have hs := (Since.drew HS.out).step hc; obtain ⟨w2, hrun, hrow, hbel⟩ := run_copy_str w1 A w.heap.size 195 0 7 7 7 3 _ (some ⟨w.heap.size, 0, none⟩) hr (fun _ => rfl) (by have := HAs.out; omega) (by have := HAs.out; omega)))
  have HR1 := Lib.hid hrow
  replace HS := Lib.hid (hbel w.heap.size w hs (Nat.le_refl _))
  clear hc hr hs hrow hbel hrun
  go_wp2_with fail
  go_region_law (first
    | (go_simp; go_at_call 57; refine (c2 _).mono ?_; rintro e w3 ⟨rfl, hc⟩; have hr := row_since HR1.out.drew hc; have hs := (Since.drew HS.out).step hc; obtain ⟨w4, hrun, hrow, hbel⟩ := run_copy_str w3 B w.heap.size 195 3 7 4 4 3 _ (some ⟨w.heap.size, 3, none⟩) hr (fun _ => rfl) (by have := HBs.out; omega) (by have := HBs.out; omega)))
  have HR2 := Lib.hid hrow
  replace HS := Lib.hid (hbel w.heap.size w hs (Nat.le_refl _))
  clear hc hr hs hrow hbel hrun
  go_wp2_with fail
  go_region_law (first
    | (go_simp; go_at_call 57; refine (c3 _).mono ?_; rintro e w5 ⟨rfl, hc⟩; have hr := row_since HR2.out.drew hc; have hs := (Since.drew HS.out).step hc; obtain ⟨w6, hrun, hrow, hbel⟩ := run_copy_str w5 C w.heap.size 195 5 7 2 2 3 _ (some ⟨w.heap.size, 5, none⟩) hr (fun _ => rfl) (by have := HCs.out; omega) (by have := HCs.out; omega)))
  have HR3 := Lib.hid hrow
  replace HS := Lib.hid (hbel w.heap.size w hs (Nat.le_refl _))
  clear hc hr hs hrow hbel hrun
  go_wp2_with fail
  have g := run_convert_bytes_arg (P := Tryz.prog) w6 114 5 Tryz.underlying114 Tryz.underlying5 w.heap.size 0 7 7 xs HL.out (fun i hi => by
    rw [Nat.zero_add, HR3.out.cell hi, ← HC.out i hi]; rfl) 9 Tryz.underlying9
  rw [← HX.out] at g
  go_wp2_with fail
  rw [g]
  go_simp
  go_wp2_with fail
  go_ret
  exact ⟨rfl, HS.out⟩
set_option maxRecDepth 100000 in
set_option maxHeartbeats 400000 in
theorem input_24 (p x : Int) (A B C X : ByteArray) (hA : A.size = 2) (hB : B.size = 2) (hC : C.size = 2) (t1 : decide (p < 0) = false) (t2 : decide ((1 : Int) < p) = false) (hx : (x == 0) = false)
    (c0 : Ret 23 #[.int .i64 24] (.int .i64 x)) (e1 : IntKind.u64.wrap p = p)
    (c1 : Mak 57 #[.int .u64 p, .int .i64 2] (.string A)) (c2 : Mak 57 #[.int .u64 3, .int .i64 2] (.string B)) (c3 : Mak 57 #[.int .u64 192, .int .i64 2] (.string C))
    (xs : List Int) (hl : xs.length = 7) (hcl : ∀ i, i < 7 → row7 A B C i = .int .u8 (xs.getD i 0)) (hX : X = strOfNums xs) :
    Mak 151 #[.int .i64 p, .int .i64 24] (.string X) := by
  intro w
  obtain ⟨W, hW⟩ : ∃ W, W = w.alloc (.cells #[.int .u8 0, .int .u8 0, .int .u8 0, .int .u8 0, .int .u8 0, .int .u8 0, .int .u8 0] 195) := ⟨_, rfl⟩
  have hs0 : Since w W := by rw [hW]; exact (Since.refl w).alloc _
  have hr0 : W.rowIs w.heap.size 195 7 (fun _ => .int .u8 0) := by
    rw [hW]
    exact World.rowIs_alloc w _ _ (fun _ => .int .u8 0) (fun i hi => by
      match i, hi with
      | 0, _ | 1, _ | 2, _ | 3, _ | 4, _ | 5, _ | 6, _ => rfl
      | n + 7, hi => simp at hi; omega)
  have HR0 := Lib.hid hr0
  have HS := Lib.hid hs0
  have s0 : ∀ W, (Instr.sliceAt 195 (.pointer (some ⟨w.heap.size, 0, none⟩)) (some (.int .i64 0)) none none).run Tryz.prog W = .ok (.slice (some ⟨w.heap.size, 0, none⟩) 7 7) W := sl7 w.heap.size 0 (by decide)
  have s3 : ∀ W, (Instr.sliceAt 195 (.pointer (some ⟨w.heap.size, 0, none⟩)) (some (.int .i64 3)) none none).run Tryz.prog W = .ok (.slice (some ⟨w.heap.size, 3, none⟩) 4 4) W := sl7 w.heap.size 3 (by decide)
  have s5 : ∀ W, (Instr.sliceAt 195 (.pointer (some ⟨w.heap.size, 0, none⟩)) (some (.int .i64 5)) none none).run Tryz.prog W = .ok (.slice (some ⟨w.heap.size, 5, none⟩) 2 2) W := sl7 w.heap.size 5 (by decide)
  have sa := sl7a w.heap.size
  have HX := Lib.hid hX
  have HL := Lib.hid hl
  have HC := Lib.hid hcl
  have HAs := Lib.hid hA
  have HBs := Lib.hid hB
  have HCs := Lib.hid hC
  clear hs0 hr0 hX hl hcl
  go_enter Tryz.func151, Tryz.ntmps151
  go_wp2_with fail
  refine (c0).calls ?_
  go_wp2_with fail
  rw [← hW]
  clear hW
  go_region_law (first
    | (go_simp; go_at_call 57; refine (c1 _).mono ?_; rintro e w1 ⟨rfl, hc⟩; have hr := row_since HR0.out.drew hc; have hs := (Since.drew HS.out).step hc; obtain ⟨w2, hrun, hrow, hbel⟩ := run_copy_str w1 A w.heap.size 195 0 7 7 7 3 _ (some ⟨w.heap.size, 0, none⟩) hr (fun _ => rfl) (by have := HAs.out; omega) (by have := HAs.out; omega)))
  have HR1 := Lib.hid hrow
  replace HS := Lib.hid (hbel w.heap.size w hs (Nat.le_refl _))
  clear hc hr hs hrow hbel hrun
  go_wp2_with fail
  go_region_law (first
    | (go_simp; go_at_call 57; refine (c2 _).mono ?_; rintro e w3 ⟨rfl, hc⟩; have hr := row_since HR1.out.drew hc; have hs := (Since.drew HS.out).step hc; obtain ⟨w4, hrun, hrow, hbel⟩ := run_copy_str w3 B w.heap.size 195 3 7 4 4 3 _ (some ⟨w.heap.size, 3, none⟩) hr (fun _ => rfl) (by have := HBs.out; omega) (by have := HBs.out; omega)))
  have HR2 := Lib.hid hrow
  replace HS := Lib.hid (hbel w.heap.size w hs (Nat.le_refl _))
  clear hc hr hs hrow hbel hrun
  go_wp2_with fail
  go_region_law (first
    | (go_simp; go_at_call 57; refine (c3 _).mono ?_; rintro e w5 ⟨rfl, hc⟩; have hr := row_since HR2.out.drew hc; have hs := (Since.drew HS.out).step hc; obtain ⟨w6, hrun, hrow, hbel⟩ := run_copy_str w5 C w.heap.size 195 5 7 2 2 3 _ (some ⟨w.heap.size, 5, none⟩) hr (fun _ => rfl) (by have := HCs.out; omega) (by have := HCs.out; omega)))
  have HR3 := Lib.hid hrow
  replace HS := Lib.hid (hbel w.heap.size w hs (Nat.le_refl _))
  clear hc hr hs hrow hbel hrun
  go_wp2_with fail
  have g := run_convert_bytes_arg (P := Tryz.prog) w6 114 5 Tryz.underlying114 Tryz.underlying5 w.heap.size 0 7 7 xs HL.out (fun i hi => by
    rw [Nat.zero_add, HR3.out.cell hi, ← HC.out i hi]; rfl) 9 Tryz.underlying9
  rw [← HX.out] at g
  go_wp2_with fail
  rw [g]
  go_simp
  go_wp2_with fail
  go_ret
  exact ⟨rfl, HS.out⟩
set_option maxRecDepth 100000 in
set_option maxHeartbeats 400000 in
theorem input_32 (p x : Int) (A B C X : ByteArray) (hA : A.size = 2) (hB : B.size = 2) (hC : C.size = 2) (t1 : decide (p < 0) = false) (t2 : decide ((1 : Int) < p) = false) (hx : (x == 0) = false)
    (c0 : Ret 23 #[.int .i64 32] (.int .i64 x)) (e1 : IntKind.u64.wrap p = p)
    (c1 : Mak 57 #[.int .u64 p, .int .i64 2] (.string A)) (c2 : Mak 57 #[.int .u64 4, .int .i64 2] (.string B)) (c3 : Mak 57 #[.int .u64 256, .int .i64 2] (.string C))
    (xs : List Int) (hl : xs.length = 7) (hcl : ∀ i, i < 7 → row7 A B C i = .int .u8 (xs.getD i 0)) (hX : X = strOfNums xs) :
    Mak 151 #[.int .i64 p, .int .i64 32] (.string X) := by
  intro w
  obtain ⟨W, hW⟩ : ∃ W, W = w.alloc (.cells #[.int .u8 0, .int .u8 0, .int .u8 0, .int .u8 0, .int .u8 0, .int .u8 0, .int .u8 0] 195) := ⟨_, rfl⟩
  have hs0 : Since w W := by rw [hW]; exact (Since.refl w).alloc _
  have hr0 : W.rowIs w.heap.size 195 7 (fun _ => .int .u8 0) := by
    rw [hW]
    exact World.rowIs_alloc w _ _ (fun _ => .int .u8 0) (fun i hi => by
      match i, hi with
      | 0, _ | 1, _ | 2, _ | 3, _ | 4, _ | 5, _ | 6, _ => rfl
      | n + 7, hi => simp at hi; omega)
  have HR0 := Lib.hid hr0
  have HS := Lib.hid hs0
  have s0 : ∀ W, (Instr.sliceAt 195 (.pointer (some ⟨w.heap.size, 0, none⟩)) (some (.int .i64 0)) none none).run Tryz.prog W = .ok (.slice (some ⟨w.heap.size, 0, none⟩) 7 7) W := sl7 w.heap.size 0 (by decide)
  have s3 : ∀ W, (Instr.sliceAt 195 (.pointer (some ⟨w.heap.size, 0, none⟩)) (some (.int .i64 3)) none none).run Tryz.prog W = .ok (.slice (some ⟨w.heap.size, 3, none⟩) 4 4) W := sl7 w.heap.size 3 (by decide)
  have s5 : ∀ W, (Instr.sliceAt 195 (.pointer (some ⟨w.heap.size, 0, none⟩)) (some (.int .i64 5)) none none).run Tryz.prog W = .ok (.slice (some ⟨w.heap.size, 5, none⟩) 2 2) W := sl7 w.heap.size 5 (by decide)
  have sa := sl7a w.heap.size
  have HX := Lib.hid hX
  have HL := Lib.hid hl
  have HC := Lib.hid hcl
  have HAs := Lib.hid hA
  have HBs := Lib.hid hB
  have HCs := Lib.hid hC
  clear hs0 hr0 hX hl hcl
  go_enter Tryz.func151, Tryz.ntmps151
  go_wp2_with fail
  refine (c0).calls ?_
  go_wp2_with fail
  rw [← hW]
  clear hW
  go_region_law (first
    | (go_simp; go_at_call 57; refine (c1 _).mono ?_; rintro e w1 ⟨rfl, hc⟩; have hr := row_since HR0.out.drew hc; have hs := (Since.drew HS.out).step hc; obtain ⟨w2, hrun, hrow, hbel⟩ := run_copy_str w1 A w.heap.size 195 0 7 7 7 3 _ (some ⟨w.heap.size, 0, none⟩) hr (fun _ => rfl) (by have := HAs.out; omega) (by have := HAs.out; omega)))
  have HR1 := Lib.hid hrow
  replace HS := Lib.hid (hbel w.heap.size w hs (Nat.le_refl _))
  clear hc hr hs hrow hbel hrun
  go_wp2_with fail
  go_region_law (first
    | (go_simp; go_at_call 57; refine (c2 _).mono ?_; rintro e w3 ⟨rfl, hc⟩; have hr := row_since HR1.out.drew hc; have hs := (Since.drew HS.out).step hc; obtain ⟨w4, hrun, hrow, hbel⟩ := run_copy_str w3 B w.heap.size 195 3 7 4 4 3 _ (some ⟨w.heap.size, 3, none⟩) hr (fun _ => rfl) (by have := HBs.out; omega) (by have := HBs.out; omega)))
  have HR2 := Lib.hid hrow
  replace HS := Lib.hid (hbel w.heap.size w hs (Nat.le_refl _))
  clear hc hr hs hrow hbel hrun
  go_wp2_with fail
  go_region_law (first
    | (go_simp; go_at_call 57; refine (c3 _).mono ?_; rintro e w5 ⟨rfl, hc⟩; have hr := row_since HR2.out.drew hc; have hs := (Since.drew HS.out).step hc; obtain ⟨w6, hrun, hrow, hbel⟩ := run_copy_str w5 C w.heap.size 195 5 7 2 2 3 _ (some ⟨w.heap.size, 5, none⟩) hr (fun _ => rfl) (by have := HCs.out; omega) (by have := HCs.out; omega)))
  have HR3 := Lib.hid hrow
  replace HS := Lib.hid (hbel w.heap.size w hs (Nat.le_refl _))
  clear hc hr hs hrow hbel hrun
  go_wp2_with fail
  have g := run_convert_bytes_arg (P := Tryz.prog) w6 114 5 Tryz.underlying114 Tryz.underlying5 w.heap.size 0 7 7 xs HL.out (fun i hi => by
    rw [Nat.zero_add, HR3.out.cell hi, ← HC.out i hi]; rfl) 9 Tryz.underlying9
  rw [← HX.out] at g
  go_wp2_with fail
  rw [g]
  go_simp
  go_wp2_with fail
  go_ret
  exact ⟨rfl, HS.out⟩
theorem input_yes (p n : Nat) (hp : p ≤ 1) (hn : n = 16 ∨ n = 24 ∨ n = 32) (X : ByteArray) (hX : X = inpS p n) : Mak 151 #[.int .i64 (p : Int), .int .i64 (n : Int)] (.string X) := by
  have t1 : decide ((p : Int) < 0) = false := decide_eq_false (by omega)
  have t2 : decide ((1 : Int) < (p : Int)) = false := decide_eq_false (by omega)
  have e1 : IntKind.u64.wrap (p : Int) = (p : Int) := IntWalk.u64_in _ (by omega)
  obtain ⟨A, hA⟩ : ∃ A : ByteArray, A = ⟨#[0, UInt8.ofNat p]⟩ := ⟨_, rfl⟩
  have c1 := putp p (by omega) A (by rw [hA]; rcases (show p = 0 ∨ p = 1 by omega) with rfl | rfl <;> rfl)
  have hxx : (((n / 4 + 6 : Nat) : Int) == 0) = false := by rw [beq_eq_false_iff_ne]; omega
  have c0 := Sched.rounds_yes n hn _ rfl
  have hX2 : X = strOfNums [0, (p : Int), 0, 0, ((n / 8 : Nat) : Int), ((8 * n / 256 : Nat) : Int), ((8 * n % 256 : Nat) : Int)] := by
    rw [hX]
    rcases hn with rfl | rfl | rfl <;> rcases (show p = 0 ∨ p = 1 by omega) with rfl | rfl <;> rfl
  rcases hn with rfl | rfl | rfl
  · refine input_16 (p : Int) _ A ⟨#[0, 2]⟩ ⟨#[0, 128]⟩ X (by rw [hA]; rfl) rfl rfl t1 t2 hxx c0 e1 c1 (putp 2 (by decide) _ rfl) (putp 128 (by decide) _ rfl) _ rfl ?_ hX2
    rw [hA]
    intro i hi
    rcases (show p = 0 ∨ p = 1 by omega) with rfl | rfl <;> rcases (show i = 0 ∨ i = 1 ∨ i = 2 ∨ i = 3 ∨ i = 4 ∨ i = 5 ∨ i = 6 by omega) with rfl | rfl | rfl | rfl | rfl | rfl | rfl <;> rfl
  · refine input_24 (p : Int) _ A ⟨#[0, 3]⟩ ⟨#[0, 192]⟩ X (by rw [hA]; rfl) rfl rfl t1 t2 hxx c0 e1 c1 (putp 3 (by decide) _ rfl) (putp 192 (by decide) _ rfl) _ rfl ?_ hX2
    rw [hA]
    intro i hi
    rcases (show p = 0 ∨ p = 1 by omega) with rfl | rfl <;> rcases (show i = 0 ∨ i = 1 ∨ i = 2 ∨ i = 3 ∨ i = 4 ∨ i = 5 ∨ i = 6 by omega) with rfl | rfl | rfl | rfl | rfl | rfl | rfl <;> rfl
  · refine input_32 (p : Int) _ A ⟨#[0, 4]⟩ ⟨#[1, 0]⟩ X (by rw [hA]; rfl) rfl rfl t1 t2 hxx c0 e1 c1 (putp 4 (by decide) _ rfl) (putp 256 (by decide) _ rfl) _ rfl ?_ hX2
    rw [hA]
    intro i hi
    rcases (show p = 0 ∨ p = 1 by omega) with rfl | rfl <;> rcases (show i = 0 ∨ i = 1 ∨ i = 2 ∨ i = 3 ∨ i = 4 ∨ i = 5 ∨ i = 6 by omega) with rfl | rfl | rfl | rfl | rfl | rfl | rfl <;> rfl
end Der
end Go.Proofs.YtddlaafpianjbaaGreatDoor

/- Package derive: Key, Keys. -/
namespace Go.Proofs.YtddlaafpianjbaaGreatDoor
open Go.RowKit
namespace Der
open Rnd Aes Cmac Kdf

set_option maxRecDepth 100000 in
theorem key_nokey (key : ByteArray) (p : Int) (hk : ¬ keyOk key) : Ret 102 #[.string key, .int .i64 p] (.tuple #[.string ⟨#[]⟩, .int .i64 2]) := by
  intro w
  have c1 := rounds_nokey key hk
  clear hk
  go_enter Tryz.func102, Tryz.ntmps102
  go_wp2_with fail
  refine (c1).calls ?_
  go_wp2_with fail
  go_ret2
  exact ⟨rfl, rfl⟩
set_option maxRecDepth 100000 in
theorem key_yes (key : ByteArray) (p : Nat) (hk : keyOk key) (hp : p ≤ 1) (X : ByteArray) (hX : X = derK key p) : Mak 102 #[.string key, .int .i64 (p : Int)] (.tuple #[.string X, .int .i64 0]) := by
  intro w
  have H0 := Lib.hid (Since.refl w)
  obtain ⟨x, hx, c1⟩ := rounds_key key hk
  obtain ⟨I, hI⟩ : ∃ I, I = inpS p key.size := ⟨_, rfl⟩
  have c2 := input_yes p key.size hp (by unfold keyOk at hk; exact hk) I hI
  have hIs : I.size = 7 := by rw [hI]; rfl
  have b1 := some_bytes I (by omega)
  have b2 := some_bytes_f I (by omega)
  have c3 := Kdf.counter_yes key I key.size hk (by unfold keyOk at hk; omega) (by unfold keyOk at hk; omega) (by omega) X (by rw [hX, derK, hI])
  clear hk hp hX hI hIs
  go_enter Tryz.func102, Tryz.ntmps102
  go_wp2_with fail
  refine (c1).calls ?_
  go_wp2_with fail
  refine c2.calls H0.out ?_
  intro w1 h1
  have H1 := Lib.hid h1
  clear h1
  go_wp2_with fail
  refine c3.calls H1.out ?_
  intro w2 h2
  have H2 := Lib.hid h2
  clear h2
  go_wp2_with fail
  go_ret2
  exact ⟨rfl, H2.out⟩
set_option maxRecDepth 100000 in
theorem keys_nokey (key : ByteArray) (hk : ¬ keyOk key) : Ret 59 #[.string key] (.tuple #[.string ⟨#[]⟩, .string ⟨#[]⟩, .int .i64 2]) := by
  intro w
  have c1 := key_nokey key 0 hk
  clear hk
  go_enter Tryz.func59, Tryz.ntmps59
  go_wp2_with fail
  refine (c1).calls ?_
  go_wp2_with fail
  go_ret3
  exact ⟨rfl, rfl⟩
set_option maxRecDepth 100000 in
theorem keys_yes (key : ByteArray) (hk : keyOk key) (X Y : ByteArray) (hX : X = derK key 0) (hY : Y = derK key 1) : Mak 59 #[.string key] (.tuple #[.string X, .string Y, .int .i64 0]) := by
  intro w
  have H0 := Lib.hid (Since.refl w)
  have c1 := key_yes key 0 hk (by decide) X hX
  have c2 := key_yes key 1 hk (by decide) Y hY
  clear hk hX hY
  go_enter Tryz.func59, Tryz.ntmps59
  go_wp2_with fail
  refine c1.calls H0.out ?_
  intro w1 h1
  have H1 := Lib.hid h1
  clear h1
  go_wp2_with fail
  refine c2.calls H1.out ?_
  intro w2 h2
  have H2 := Lib.hid h2
  clear h2
  go_wp2_with fail
  go_ret3
  exact ⟨rfl, H2.out⟩
end Der
end Go.Proofs.YtddlaafpianjbaaGreatDoor

/- The reference of derive. -/
namespace Go.Proofs.YtddlaafpianjbaaGreatDoor
open Go.RowKit
namespace RefDer
open Rnd Aes Cmac Kdf Der

end RefDer
end Go.Proofs.YtddlaafpianjbaaGreatDoor

/- The reference of cbc. -/
namespace Go.Proofs.YtddlaafpianjbaaGreatDoor
open Go.RowKit
namespace RefCbc
open Rnd Aes RefAes Cbc

end RefCbc
end Go.Proofs.YtddlaafpianjbaaGreatDoor

/- cbc: what is encrypted, decrypted, is what it was; a chain in two pieces. What the law calls awake. -/
namespace Go.Proofs.YtddlaafpianjbaaGreatDoor
open Go.RowKit
namespace Cbc
open Rnd Aes RefAes RefCbc

theorem xorS_16 (a b : ByteArray) (ha : a.size = 16) (hb : b.size = 16) : Sched.xorS a b = bs (xorL a.data.toList b.data.toList) := by
  unfold Sched.xorS
  rw [ha, hb]
  exact xor_str _ _
theorem xorS_back (a b : ByteArray) (ha : a.size = 16) (hb : b.size = 16) : Sched.xorS (Sched.xorS a b) b = a := by
  rw [xorS_16 a b ha hb, xorS_16 _ b (by rw [size_bs, xorL_len]) hb, list_bs, xor_xor _ _ ha]
  exact bs_list a
theorem pc_chain (f : ByteArray → ByteArray) (hf : ∀ b, (f b).size = 16) (iv : ByteArray) (l : List UInt8) (n k : Nat) (h : k < n) : Oct.pc (chainE f iv l n) 16 k = prevE f iv l (k + 1) := by
  induction n with
  | zero => omega
  | succ n ih =>
    have hn := chainE_len f hf iv l n
    rw [chainE]
    by_cases hk : k < n
    · rw [← ih hk]
      unfold Oct.pc
      rw [List.drop_append_of_le_length (by omega), List.take_append_of_le_length (by rw [List.length_drop]; omega)]
    · obtain rfl : k = n := by omega
      unfold Oct.pc
      rw [List.drop_append, List.drop_eq_nil_of_le (by omega), hn, Nat.sub_self, List.nil_append, List.drop_zero]
      have h9 : (prevE f iv l (k + 1)).data.toList.length = 16 := hf _
      rw [List.take_of_length_le (by omega)]
      exact bs_list _
theorem prevD_chain (f : ByteArray → ByteArray) (hf : ∀ b, (f b).size = 16) (iv : ByteArray) (l : List UInt8) (n k : Nat) (h : k ≤ n) : prevD iv (chainE f iv l n) k = prevE f iv l k := by
  cases k with
  | zero => rfl
  | succ k => exact pc_chain f hf iv l n k (by omega)
theorem take_pc (l : List UInt8) (k : Nat) : l.take (16 * k) ++ (Oct.pc l 16 k).data.toList = l.take (16 * (k + 1)) := by
  unfold Oct.pc
  rw [list_bs, show 16 * (k + 1) = 16 * k + 16 from by omega, List.take_add]
theorem chain_back (f g : ByteArray → ByteArray) (hf : ∀ b, (f b).size = 16) (hg : ∀ b, b.size = 16 → g (f b) = b) (iv : ByteArray) (hiv : iv.size = 16) (l : List UInt8) (n k : Nat) (hl : l.length = 16 * n) (h : k ≤ n) : chainD g iv (chainE f iv l n) k = l.take (16 * k) := by
  induction k with
  | zero => simp [chainD]
  | succ k ih =>
    rw [chainD, ih (by omega), pc_chain f hf iv l n k (by omega), prevD_chain f hf iv l n k (by omega), prevE,
      hg _ (xor16_size _ _ (pc_size l k (by omega)) (prevE_size f hf iv hiv l k)), xorS_back _ _ (pc_size l k (by omega)) (prevE_size f hf iv hiv l k), take_pc]
theorem dec_encC (key iv s : ByteArray) (hiv : iv.size = 16) (hs : s.size % 16 = 0) : decC key iv (encC key iv s) = s := by
  have hl : s.data.toList.length = s.size := rfl
  apply ba_ext
  unfold decC
  rw [list_bs]
  have hz : (encC key iv s).size / 16 = s.size / 16 := by unfold encC; rw [size_bs, chainE_len _ (encK_size key)]; omega
  rw [hz]
  unfold encC
  rw [list_bs, chain_back (encK key) (decK key) (encK_size key) (fun b hb => decK_encK key b hb) iv hiv _ _ _ (by omega) (Nat.le_refl _), List.take_of_length_le (by omega)]
def zero16 : ByteArray := ⟨#[0, 0, 0, 0, 0, 0, 0, 0, 0, 0, 0, 0, 0, 0, 0, 0]⟩
def aKey : ByteArray := ⟨#[48, 49, 50, 51, 52, 53, 54, 55, 56, 57, 97, 98, 99, 100, 101, 102]⟩
def aText : ByteArray := ⟨#[102, 101, 100, 99, 98, 97, 57, 56, 55, 54, 53, 52, 51, 50, 49, 48]⟩
end Cbc
end Go.Proofs.YtddlaafpianjbaaGreatDoor
