/- Joined texts. -/
-- PACK: YtlmnidpcdibnkaaMem YtlmnidpcdibnkaaOct
import Derived.Test.YtlmnidpcdibnkaaSp2
import Derived.Deep.OwnRows
import Derived.Deep.Draws
import Derived.Laws.CopyRow
import Derived.Laws.CopyOwn
import Derived.Lib.SlBuf
import Derived.Test.YtlmnidpcdibnkaaSp1
import Derived.Test.YtlmnidpcdibnkaaRows
import Derived.WalkKit
import Derived.WalkSpells
import Derived.WalkLawsBesides
import Derived.Lib.Hide
import Derived.Laws.BytesArg

/- Memory that a call makes itself: a string copied into a row. -/
namespace Go.Proofs.Ytlmnidpcdibnkaa
open Go.RowKit

set_option maxRecDepth 100000 in
theorem info5 : (Try.prog.info? 5).map (fun i => (i.zero, i.size, i.bytes)) = some (some (Value.int IntKind.u8 0), 1, 1) := by kernel_rfl

/-- what a row of bytes holds where the bytes l were put at place off -/
def putAt (f : Nat → Value) (off : Nat) (l : List UInt8) : Nat → Value := fun j => if off ≤ j ∧ j < off + l.length then .int .u8 ((l.getD (j - off) 0).toNat : Int) else f j

set_option maxRecDepth 100000 in
theorem run_copy_str (w : World) (s : ByteArray) (b t off N dLen dCap ty : Nat) (f : Nat → Value) (A : Option Addr) (h : w.rowIs b t N f) (hA : 0 < s.size → A = some ⟨b, off, none⟩) (hfit : off + s.size ≤ N) (hd : s.size ≤ dLen) :
    ∃ w', (Builtin.copy_ #[88, 9] ty #[.slice A dLen dCap, .string s]).run Try.prog w = .ok (.int .i64 (s.size : Int)) w' ∧ w'.rowIs b t N (putAt f off s.data.toList) ∧ ∀ (B : Nat) (w0 : World), Below B w0 w → B ≤ b → Below B w0 w' := by
  obtain ⟨c, hg, hn, hc⟩ := h
  have hi : ∃ i, Try.prog.info? 5 = some i ∧ i.size = 1 := by
    obtain ⟨i, hi, hz⟩ := Option.map_eq_some_iff.1 info5
    simp only [Prod.mk.injEq] at hz
    exact ⟨i, hi, hz.2.1⟩
  obtain ⟨i, hi, hi1⟩ := hi
  have hmin : Nat.min s.size dLen = s.size := Nat.min_eq_left hd
  have htk : List.take s.size (s.data.toList.map fun b => Value.int .u8 (b.toNat : Int)) = s.data.toList.map fun b => Value.int .u8 (b.toNat : Int) := List.take_of_length_le (by simp)
  have hu := run_underlying (P := Try.prog) Try.underlying88 w
  by_cases h0 : s.size = 0
  · have hl : s.data.toList = [] := List.eq_nil_of_length_eq_zero h0
    refine ⟨w, ?_, ⟨c, hg, hn, fun j hj => by rw [hc j hj]; unfold putAt; rw [hl, if_neg (fun h => by have := h.2; simp at this; omega)]⟩, fun B w0 hb _ => hb⟩
    cases A with
    | none => simp [Builtin.copy_, hu, Builtin.lenOf, Builtin.firstCells, sizeOf, typeInfo, hi, hmin, goInt]
    | some ad => simp [Builtin.copy_, hu, Builtin.lenOf, Builtin.firstCells, sizeOf, typeInfo, hi, hmin, goInt, hl, storeCells]
  · obtain rfl := hA (by omega)
    have hst := run_storeCells_at Try.prog b off t (s.data.toList.map fun b => Value.int .u8 (b.toNat : Int)) 0 c w hg (by simp; show off + s.size ≤ c.size; omega) (by intro v hv; obtain ⟨x, _, rfl⟩ := List.mem_map.1 hv; rfl)
    refine ⟨_, by simp [Builtin.copy_, hu, Builtin.lenOf, Builtin.firstCells, sizeOf, typeInfo, hi, hmin, goInt, htk, hst]; rfl, ⟨_, setRow_heap w b c _ t _ hg, ?_, fun j hj => ?_⟩, fun B w0 hb hB => below_setRow hb hB _⟩
    · simp; omega
    · have hlen : s.data.toList.length = s.size := rfl
      unfold putAt
      simp only [List.getElem?_toArray]
      by_cases h1 : j < off
      · rw [if_neg (by omega), List.getElem?_append_left (by simp; omega), List.getElem?_take_of_lt h1, Array.getElem?_toList]
        exact hc j hj
      · by_cases h2 : j < off + s.size
        · rw [if_pos (by omega), List.getElem?_append_right (by simp; omega), List.getElem?_append_left (by simp; omega)]
          have he : j - (List.take off c.toList).length = j - off := by simp; omega
          rw [he, List.getElem?_map, List.getElem?_eq_getElem (by omega)]
          simp [List.getD, List.getElem?_eq_getElem (show j - off < s.data.toList.length by omega)]
        · rw [if_neg (by omega), List.getElem?_append_right (by simp; omega), List.getElem?_append_right (by simp; omega), List.getElem?_drop, Array.getElem?_toList]
          have he : off + s.size + (j - (List.take off c.toList).length - (List.map (fun b => Value.int .u8 (b.toNat : Int)) s.data.toList).length) = j := by simp; omega
          rw [he]
          exact hc j hj
end Go.Proofs.Ytlmnidpcdibnkaa

/- The walks of package octets. -/
namespace Go.Proofs.Ytlmnidpcdibnkaa
open Go.RowKit
namespace Oct

def putF (n : Int) (j : Nat) : Value := .int .u8 (n / 2 ^ (8 * (7 - j)) % 256)

def putL (n : Int) (width : Nat) : List Int := (List.range width).map fun i => n / 2 ^ (8 * (7 - (8 - width + i))) % 256

set_option maxRecDepth 100000 in
theorem slice8 (width b : Nat) (h0 : 1 ≤ width) (h1 : width ≤ 8) : ∀ w : World,
    (Instr.sliceAt 108 (.pointer (some ⟨b, 0, none⟩)) (some (.int .i64 (8 - (width : Int)))) none none).run Try.prog w = .ok (.slice (some ⟨b, 8 - width, none⟩) width width) w := by
  rcases (show width = 1 ∨ width = 2 ∨ width = 3 ∨ width = 4 ∨ width = 5 ∨ width = 6 ∨ width = 7 ∨ width = 8 by omega) with rfl | rfl | rfl | rfl | rfl | rfl | rfl | rfl <;> intro w <;> kernel_rfl

set_option maxRecDepth 100000 in
set_option maxHeartbeats 400000 in
theorem put_mid (n : Int) (width : Nat) (w : World) (_hn : 0 ≤ n) (_hn2 : n ≤ 18446744073709551615) (h0 : 1 ≤ width) (h1 : width ≤ 8) :
    Calls Try.prog 56 #[.int .u64 n, .int .i64 (width : Int)] w fun e w' => e = .returned (.string (strOfNums (putL n width))) ∧ Below w.heap.size w w' := by
  go_enter Try.func56, Try.ntmps56
  go_wp2
  go_loopw [13] (fun i wr => ∃ k : Nat, k ≤ 8 ∧ i = .int .i64 (k : Int) ∧ Hid (wr.rowIs w.heap.size 108 8 (fun j => if j < k then putF n j else .int .u8 0)) ∧ Hid (Below w.heap.size w wr)) (fun i _ => 8 - (intOf i).toNat)
  case atStart =>
    refine ⟨0, by omega, rfl, ?_, ?_⟩
    · exact Lib.hid (World.rowIs_alloc w _ _ _ (fun i hi => by
        match i, hi with
        | 0, _ | 1, _ | 2, _ | 3, _ | 4, _ | 5, _ | 6, _ | 7, _ => rfl
        | n + 8, hi => simp at hi; omega))
    · exact Lib.hid ((Below.refl _ _).alloc (Nat.le_refl _) _)
  case round =>
    obtain ⟨k, hk, rfl, HR, HB⟩ := hrel
    by_cases hlt : k < 8
    · have hc := HR.out.cell (i := k) hlt
      have hf := HR.out.frozen k
      go_wp2_with fail
      go_roundw
      case rel =>
        refine ⟨k + 1, by omega, by go_num, Lib.hid ((HR.out.set k _).congr fun j hj => ?_), Lib.hid (HB.out.setCell (Nat.le_refl _) _)⟩
        by_cases h1 : j = k
        · subst h1; simp [putF]
        · by_cases h2 : j < k
          · simp [h1, h2, show j < k + 1 from by omega]
          · simp [h1, h2, show ¬ j < k + 1 from by omega]
      case measure => simp [intOf]; omega
    · obtain rfl : k = 8 := by omega
      have g := run_convert_bytes_arg (P := Try.prog) wr 88 5 Try.underlying88 Try.underlying5 w.heap.size (8 - width) width width (putL n width) (by simp [putL]) (fun i hi => by
        rw [HR.out.cell (by omega), if_pos (by omega)]; simp [putF, putL, show i < width from by omega]) 9 Try.underlying9
      have hsl := slice8 width w.heap.size h0 h1
      have HR' := HR; have HB' := HB
      go_wp2_with fail
      go_ret
      exact ⟨rfl, HB.out⟩

set_option maxRecDepth 100000 in
set_option maxHeartbeats 400000 in
theorem put_out (n width : Int) (w : World) (h : width < 1 ∨ 8 < width) :
    Calls Try.prog 56 #[.int .u64 n, .int .i64 width] w fun e w' => e = .returned (.string ⟨#[]⟩) ∧ Below w.heap.size w w' := by
  rcases h with h | h
  · go_enter Try.func56, Try.ntmps56
    go_wp2
    go_ret
    exact ⟨rfl, (Below.refl _ _).alloc (Nat.le_refl _) _⟩
  · have h' : ¬ width < 1 := by omega
    go_enter Try.func56, Try.ntmps56
    go_wp2
    go_ret
    exact ⟨rfl, (Below.refl _ _).alloc (Nat.le_refl _) _⟩

def numN (l : List UInt8) : Nat := l.foldl (fun n c => n * 256 + c.toNat) 0
theorem numN_snoc (l : List UInt8) (c : UInt8) : numN (l ++ [c]) = numN l * 256 + c.toNat := by unfold numN; rw [List.foldl_append]; rfl
theorem numN_aux (l : List UInt8) : ∀ n : Nat, l.foldl (fun n c => n * 256 + c.toNat) n < (n + 1) * 256 ^ l.length := by
  induction l with
  | nil => intro n; simp
  | cons c l ih =>
    intro n
    have h := ih (n * 256 + c.toNat)
    have hc := c.toNat_lt
    simp only [List.foldl_cons, List.length_cons]
    refine Nat.lt_of_lt_of_le h ?_
    rw [Nat.pow_succ, Nat.mul_comm (256 ^ l.length) 256, ← Nat.mul_assoc]
    exact Nat.mul_le_mul_right _ (by omega)
theorem numN_lt (l : List UInt8) (k : Nat) (h : l.length ≤ k) : numN l < 256 ^ k := by
  have h1 := numN_aux l 0
  rw [Nat.zero_add, Nat.one_mul] at h1
  exact Nat.lt_of_lt_of_le h1 (Nat.pow_le_pow_right (by decide) h)

set_option maxRecDepth 100000 in
set_option maxHeartbeats 400000 in
theorem get_in (s : ByteArray) (w : World) (h1 : 1 ≤ s.size) (hs : s.size ≤ 8) :
    Calls Try.prog 58 #[.string s] w fun e w' => e = .returned (.tuple #[.int .u64 (numN s.data.toList : Nat), .bool true]) ∧ w = w' := by
  go_enter Try.func58, Try.ntmps58
  go_wp2
  go_loop [4, 16] (fun n i => ∃ k : Nat, k ≤ s.size ∧ i = .int .i64 k ∧ n = .int .u64 ((numN (s.data.toList.take k) : Nat) : Int)) (fun _ i => s.size - (intOf i).toNat)
  case atStart => exact ⟨0, Nat.zero_le _, rfl, rfl⟩
  case round =>
    obtain ⟨k, hk, rfl, rfl⟩ := hrel
    by_cases hlt : k < s.size
    · have hts : numN (s.data.toList.take (k + 1)) = numN (s.data.toList.take k) * 256 + s[k].toNat := by
        rw [List.take_succ_eq_append_getElem (by simpa using hlt), numN_snoc]; rfl
      have HS := Lib.hid hts; clear hts
      have hb : numN (s.data.toList.take k) < 72057594037927936 := Nat.lt_of_lt_of_le (numN_lt _ 7 (by simp; omega)) (by decide)
      have hc := s[k].toNat_lt
      have ho : bits .or .u64 (((numN (s.data.toList.take k) * 256 : Nat)) : Int) ((s[k].toNat : Nat) : Int) = ((numN (s.data.toList.take k) * 256 + s[k].toNat : Nat) : Int) := by
        rw [u64_or_nat _ _ (by omega) (by omega), Nat.mul_comm, show (256 : Nat) = 2 ^ 8 from rfl, Nat.two_pow_add_eq_or_of_lt (by omega)]
      generalize numN (s.data.toList.take k) = q at *
      have HO := Lib.hid ho; clear ho
      go_wp2_with fail
      go_round
      case rel => exact ⟨k + 1, by omega, by go_num, by rw [HS.out]; first | (rw [← HO.out]; rfl) | (rw [← HO.out]; simp)⟩
      case measure => simp [intOf]; omega
    · go_wp2_with fail
      go_ret2
      rw [List.take_of_length_le (by simp; omega)]
      exact ⟨rfl, rfl⟩

set_option maxRecDepth 100000 in
set_option maxHeartbeats 400000 in
theorem get_out (s : ByteArray) (w : World) (h : s.size < 1 ∨ 8 < s.size) (hm : s.size ≤ 9223372036854775807) :
    Calls Try.prog 58 #[.string s] w fun e w' => e = .returned (.tuple #[.int .u64 0, .bool false]) ∧ w = w' := by
  rcases h with h | h
  · go_enter Try.func58, Try.ntmps58
    go_wp2
    go_ret2
    exact ⟨rfl, rfl⟩
  · have h' : ¬ s.size < 1 := by omega
    go_enter Try.func58, Try.ntmps58
    go_wp2
    go_ret2
    exact ⟨rfl, rfl⟩

set_option maxRecDepth 100000 in
set_option maxHeartbeats 400000 in
theorem cut_no (s : ByteArray) (a n : Int) (w : World) (_hm : s.size ≤ 9223372036854775807) (h : a < 0 ∨ (s.size : Int) ≤ a ∨ n < 1) :
    Calls Try.prog 39 #[.string s, .int .i64 a, .int .i64 n] w fun e w' => e = .returned (.string ⟨#[]⟩) ∧ w = w' := by
  by_cases h1 : a < 0
  · go_enter Try.func39, Try.ntmps39
    go_wp2
    go_ret
    exact ⟨rfl, rfl⟩
  · by_cases h2 : (s.size : Int) ≤ a
    · go_enter Try.func39, Try.ntmps39
      go_wp2
      go_ret
      exact ⟨rfl, rfl⟩
    · have h3 : n < 1 := by omega
      clear h
      go_enter Try.func39, Try.ntmps39
      go_wp2
      go_ret
      exact ⟨rfl, rfl⟩

theorem cut_eq (s : ByteArray) (a n m : Nat) (h : m = min n (s.size - a)) : s.extract a (a + m) = bs ((s.data.toList.drop a).take n) := by
  subst h
  apply ba_ext
  rw [ext_list, list_bs, Nat.add_sub_cancel_left]
  rw [List.take_eq_take_iff]
  simp

set_option maxRecDepth 100000 in
set_option maxHeartbeats 400000 in
theorem cut_yes (s : ByteArray) (a n : Nat) (w : World) (hm : s.size ≤ 9223372036854775807) (hn : n ≤ 9223372036854775807) (h1 : a < s.size) (h2 : 1 ≤ n) :
    Calls Try.prog 39 #[.string s, .int .i64 (a : Int), .int .i64 (n : Int)] w fun e w' => e = .returned (.string (bs ((s.data.toList.drop a).take n))) ∧ w = w' := by
  by_cases hc : s.size - a < n
  · have he := cut_eq s a n (s.size - a) (by omega)
    go_enter Try.func39, Try.ntmps39
    go_wp2
    go_ret
    exact ⟨by simp [he], rfl⟩
  · have he := cut_eq s a n n (by omega)
    go_enter Try.func39, Try.ntmps39
    go_wp2
    go_ret
    exact ⟨by simp [he], rfl⟩


def xorV (a b : List UInt8) (j : Nat) : Int := (((a.getD j 0).toNat ^^^ (b.getD j 0).toNat : Nat) : Int)
theorem getD_at (s : ByteArray) (k : Nat) (h : k < s.size) : s.data.toList.getD k 0 = s[k] := by
  simp [List.getD, List.getElem?_eq_getElem (show k < s.data.toList.length from h)]; rfl


end Oct
end Go.Proofs.Ytlmnidpcdibnkaa
