/- Joined texts. -/
-- PACK: YtgfdomdbjiflmaaDoorEq
import Derived.Test.YtgfdomdbjiflmaaDoorDj4
import Derived.Test.YtgfdomdbjiflmaaDoorDj2
import Derived.Test.YtgfdomdbjiflmaaDoorDj16
import Derived.Deep.RegionWith
import Derived.Deep.QuietTactic
import Derived.BigQuiet

/- The walks of package equal. -/
namespace Go.Proofs.YtgfdomdbjiflmaaDoor
open Go.RowKit
namespace Eql

/-- the bits in which two texts differ at place i -/
def df (a b : List UInt8) (i : Nat) : Nat := if i < a.length ∧ i < b.length then (a.getD i 0).toNat ^^^ (b.getD i 0).toNat else 255
theorem df_lt (a b : List UInt8) (i : Nat) : df a b i < 256 := by
  unfold df; split
  · exact Nat.xor_lt_two_pow (n := 8) (a.getD i 0).toNat_lt (b.getD i 0).toNat_lt
  · omega
/-- at how many of the first n places -/
def unl (a b : List UInt8) : Nat → Nat
  | 0 => 0
  | n+1 => unl a b n + if df a b n = 0 then 0 else 1
/-- the first of them -/
def fst (a b : List UInt8) : Nat → Int
  | 0 => -1
  | n+1 => if df a b n ≠ 0 ∧ fst a b n < 0 then (n : Int) else fst a b n
theorem unl_le (a b : List UInt8) (n : Nat) : unl a b n ≤ n := by
  induction n with
  | zero => exact Nat.le_refl _
  | succ n ih => unfold unl; split <;> omega
theorem fst_bd (a b : List UInt8) (n : Nat) : -1 ≤ fst a b n ∧ fst a b n < (n : Int) := by
  induction n with
  | zero => exact ⟨Int.le_refl _, by unfold fst; omega⟩
  | succ n ih => unfold fst; split <;> omega

set_option maxRecDepth 100000 in
set_option maxHeartbeats 1000000 in
theorem each_scan (a b : ByteArray) (n : Nat) (hn : n = max a.size b.size) (hm : a.size ≤ 140737488355328) (hm2 : b.size ≤ 140737488355328) (c1 c2 : Value) (Inv : Nat → World → Prop) (hdr : ∀ i w, Inv i w → Inv i w.drew)
    (hs : ∀ i w, i < n → Inv i w → Calls Tryd.prog 85 #[.int .i64 (i : Int), .int .u8 ((df a.data.toList b.data.toList i : Nat) : Int), c1, c2] w fun e w' => e = .returned (.tuple #[]) ∧ Inv (i + 1) w') (w : World) (h0 : Inv 0 w) :
    Calls Tryd.prog 84 #[.string a, .string b, .func (.func 85) #[] #[c1, c2]] w fun e w' => e = .returned (.tuple #[]) ∧ Inv n w' := by
  have hmax : max (a.size : Int) (b.size : Int) = (n : Int) := by omega
  have hna : a.size ≤ n := by omega
  have hnb : b.size ≤ n := by omega
  have hmx : n ≤ 140737488355328 := by omega
  have H0 := Lib.hid h0
  have Hn := Lib.hid hn
  clear hn
  have Hdr := Lib.hid hdr
  clear hdr
  have Hs := Lib.hid hs
  clear hs
  clear h0
  go_enter Tryd.func84, Tryd.ntmps84
  go_wp2_with fail
  go_loopw [12] (fun i wr => ∃ k : Nat, k ≤ n ∧ i = .int .i64 (k : Int) ∧ Hid (Inv k wr)) (fun i _ => n - (intOf i).toNat)
  case atStart => exact ⟨0, by omega, rfl, H0⟩
  case round =>
    obtain ⟨k, hk, rfl, HI⟩ := hrel
    clear hmax
    by_cases hlt : k < n
    · by_cases hka : k < a.size
      · by_cases hkb : k < b.size
        · have hd : bits .xor .u8 ((a[k].toNat : Nat) : Int) ((b[k].toNat : Nat) : Int) = ((df a.data.toList b.data.toList k : Nat) : Int) := by
            unfold df
            rw [if_pos ⟨hka, hkb⟩, show a.data.toList.getD k 0 = a[k] from by simp [List.getD, List.getElem?_eq_getElem (show k < a.data.toList.length from hka)]; rfl, show b.data.toList.getD k 0 = b[k] from by simp [List.getD, List.getElem?_eq_getElem (show k < b.data.toList.length from hkb)]; rfl]
            exact u8_xor_nat _ _ a[k].toNat_lt b[k].toNat_lt
          have Hd := Lib.hid hd
          clear hd
          go_wp2_with fail
          go_region_with ((rw [Hd.out]; refine (Hs.out k _ hlt (Hdr.out _ _ HI.out)).mono ?_; rintro e w2 ⟨rfl, hI2⟩; have HI2 := Lib.hid hI2; clear hI2))
          all_goals
            go_wp2_with fail
            go_roundw
            case rel => exact ⟨k + 1, by omega, by go_num, HI2⟩
            case measure => simp [intOf]; omega
        · have hd : df a.data.toList b.data.toList k = 255 := by unfold df; rw [if_neg (fun h => hkb h.2)]
          have hc := Hs.out k wr hlt HI.out
          rw [hd] at hc
          have Hd := Lib.hid hd
          clear hd
          have Hc := Lib.hid hc
          clear hc
          go_wp2_with fail
          refine Hc.out.mono ?_
          rintro e w2 ⟨rfl, hI2⟩
          have HI2 := Lib.hid hI2
          clear hI2
          go_wp2_with fail
          go_roundw
          case rel => exact ⟨k + 1, by omega, by go_num, HI2⟩
          case measure => simp [intOf]; omega
      · have hd : df a.data.toList b.data.toList k = 255 := by unfold df; rw [if_neg (fun h => hka h.1)]
        have hc := Hs.out k wr hlt HI.out
        rw [hd] at hc
        have Hd := Lib.hid hd
        clear hd
        have Hc := Lib.hid hc
        clear hc
        go_wp2_with fail
        refine Hc.out.mono ?_
        rintro e w2 ⟨rfl, hI2⟩
        have HI2 := Lib.hid hI2
        clear hI2
        go_wp2_with fail
        go_roundw
        case rel => exact ⟨k + 1, by omega, by go_num, HI2⟩
        case measure => simp [intOf]; omega
    · obtain rfl : k = n := by omega
      go_wp2_with fail
      go_end0
      exact ⟨rfl, HI.out⟩

end Eql
end Go.Proofs.YtgfdomdbjiflmaaDoor
