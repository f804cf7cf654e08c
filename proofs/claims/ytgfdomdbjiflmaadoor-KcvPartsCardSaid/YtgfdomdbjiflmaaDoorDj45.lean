/- Joined texts. -/
-- PACK: YtgfdomdbjiflmaaDoorAes8 YtgfdomdbjiflmaaDoorAes9 YtgfdomdbjiflmaaDoorAes10 YtgfdomdbjiflmaaDoorAes11 YtgfdomdbjiflmaaDoorCmac YtgfdomdbjiflmaaDoorRefCmac YtgfdomdbjiflmaaDoorCbc YtgfdomdbjiflmaaDoorCmac2
import Derived.Test.YtgfdomdbjiflmaaDoorDj44
import Derived.ScopeJumps
import Derived.WalkMore
import Derived.Test.YtgfdomdbjiflmaaDoorDj43
import Derived.Test.YtgfdomdbjiflmaaDoorDj16
import Derived.Test.YtgfdomdbjiflmaaDoorDj21

/- Package aes: a block decrypted by a cipher. -/
namespace Go.Proofs.YtgfdomdbjiflmaaDoor
open Go.RowKit
namespace Aes
open Rnd

end Aes
end Go.Proofs.YtgfdomdbjiflmaaDoor

/- Package aes: a cipher is made. -/
namespace Go.Proofs.YtgfdomdbjiflmaaDoor
open Go.RowKit
namespace Aes
open Rnd

theorem cipF_lo (ks : List ByteArray) (len r : Int) (k p : Nat) (h : p < 1792) : cipF ks len r k p = tabV p := by unfold cipF; rw [if_pos h]
theorem cip_of_row {w : World} {c t : Nat} {ks : List ByteArray} {n : Nat} {len : Int} (h : w.rowIs c t 2034 (cipF ks len (n : Int) (n + 1))) (hn : n ≤ 14) : Cip w c ks n len := by
  refine ⟨⟨h.lt, fun p hp => ?_⟩, ?_, ?_, fun j hj i hi => ?_⟩
  · rw [h.cell (by omega), cipF_lo _ _ _ _ _ hp]
  · rw [h.cell (by omega)]; rfl
  · rw [h.cell (by omega)]; rfl
  · rw [h.cell (by omega)]
    unfold cipF
    rw [if_neg (by omega), if_neg (by omega), if_neg (by omega), if_pos (by omega), show (1794 + 16 * j + i - 1794) / 16 = j from by omega, show (1794 + 16 * j + i - 1794) % 16 = i from by omega]
theorem cip_step (ks : List ByteArray) (len r : Int) (k : Nat) (l : List UInt8) (hl : l = rk ks k) (hs : l.length = 16) (p : Nat) : putAt (cipF ks len r k) (1794 + 16 * k) l p = cipF ks len r (k + 1) p := by
  unfold putAt
  by_cases h : 1794 + 16 * k ≤ p ∧ p < 1794 + 16 * k + l.length
  · rw [if_pos h]
    unfold cipF
    rw [if_neg (by omega), if_neg (by omega), if_neg (by omega), if_pos (by omega), show (p - 1794) / 16 = k from by omega, ← hl]
    unfold blV ent
    rw [show (p - 1794) % 16 = p - (1794 + 16 * k) from by omega]
  · rw [if_neg h]
    unfold cipF
    by_cases h1 : p < 1792
    · rw [if_pos h1, if_pos h1]
    · rw [if_neg h1, if_neg h1]
      by_cases h2 : p = 1792
      · rw [if_pos h2, if_pos h2]
      · rw [if_neg h2, if_neg h2]
        by_cases h3 : p = 1793
        · rw [if_pos h3, if_pos h3]
        · rw [if_neg h3, if_neg h3]
          by_cases h4 : p < 1794 + 16 * k
          · rw [if_pos h4, if_pos (by omega)]
          · rw [if_neg h4, if_neg (by omega)]
/-- a call that makes a cipher -/
def MakC (f : Nat) (args : Array Value) (ks : List ByteArray) (n : Nat) (len : Int) : Prop := ∀ w, Calls Tryd.prog f args w fun e w' => ∃ c : Nat, e = .returned (.tuple #[.pointer (some ⟨c, 0, none⟩), .int .i64 0]) ∧ Cip w' c ks n len ∧ Since w w'
set_option maxRecDepth 100000 in
set_option maxHeartbeats 2000000 in
theorem new_no (key : ByteArray) (hm : key.size ≤ 1000000) (h : ¬ keyOk key) : Ret 78 #[.string key] (.tuple #[.pointer none, .int .i64 2]) := by
  intro w
  unfold keyOk at h
  have c1 := Sched.keys_no key hm (by omega)
  clear h
  go_enter Tryd.func78, Tryd.ntmps78
  go_wp2_with fail
  refine (c1).calls ?_
  go_wp2_with fail
  go_ret2
  exact ⟨rfl, rfl⟩
set_option maxRecDepth 100000 in
set_option maxHeartbeats 4000000 in
theorem new_yes (key : ByteArray) (n : Nat) (hn : n = 4 ∨ n = 6 ∨ n = 8) (hk : key.size = 4 * n) : MakC 78 #[.string key] (Sched.keysL key.data.toList n) (n + 6) (key.size : Int) := by
  intro w
  have H0 := Lib.hid (Since.refl w)
  have c1 := Sched.keys_yes key n hn hk
  have c2 := tables_mak
  have c3 : Ret 50 #[.int .i64 (key.size : Int)] (.int .i64 ((n : Int) + 6)) := by
    rw [hk]; exact Sched.rounds_yes (4 * n) (by omega) _ (by omega)
  have hl : key.data.toList.length = 4 * n := hk
  have hkl := Sched.keysL_len key.data.toList n
  have hcl := Sched.catw_len key.data.toList n (by omega) hl
  obtain ⟨ks, hks⟩ : ∃ ks, ks = Sched.keysL key.data.toList n := ⟨_, rfl⟩
  have hsz : ∀ i, i < n + 7 → (ks.getD i ⟨#[]⟩).size = 16 := fun i hi => by
    rw [hks]; unfold Sched.keysL Oct.pcs
    simp only [List.getD, List.getElem?_map, List.getElem?_range hi, Option.map_some, Option.getD_some]
    unfold Oct.pc
    rw [size_bs, List.length_take, List.length_drop, hcl]
    omega
  rw [← hks] at c1 hkl ⊢
  obtain ⟨C, hC⟩ : ∃ C, C = tbC := ⟨_, rfl⟩
  rw [← hC] at c2
  obtain ⟨X, hX, hXs, hX0, hX1, hX2, hX3⟩ := builtC C (by rw [hC, tbC_size]) (key.size : Int) ((n : Int) + 6)
  have hXr : ∀ i, i < 2034 → X[i]? = some (cipF ks (key.size : Int) (((n + 6 : Nat)) : Int) 0 i) := fun i hi => by
    by_cases h0 : i < 1792
    · rw [hX0 i h0, cipF_lo _ _ _ _ _ h0, hC, tbC_at i h0]
    · by_cases h1 : i = 1792
      · subst h1; rw [hX1]; rfl
      · by_cases h2 : i = 1793
        · subst h2; rw [hX2]; rfl
        · rw [hX3 i (by omega) hi]
          unfold cipF
          rw [if_neg h0, if_neg h1, if_neg h2, if_neg (by omega)]
  have HBD := Lib.hid hX
  have hKZ : Hid (ks.length = n + 7) := Lib.hid hkl
  clear hX hX0 hX1 hX2 hX3 hks hC hl hcl hkl
  have HXs := Lib.hid hXs
  clear hXs
  have HXr := Lib.hid hXr
  clear hXr
  have Hsz := Lib.hid hsz
  clear hsz
  have Hk := Lib.hid hk
  clear hk
  go_enter Tryd.func78, Tryd.ntmps78
  go_wp2_with fail
  refine c1.calls H0.out ?_
  intro v1 w1 ho1 hb1 h1
  have hlen : (((n + 7 : Nat) : Int)) = (n : Int) + 7 := by omega
  obtain ⟨b1, o1, cap1, hv, hlt1, hc1⟩ := Sched.StrsR.form ho1 (by rw [hKZ.out]; omega)
  rw [hKZ.out] at hv
  subst hv
  have HC1 := Lib.hid hc1
  have HL1 := Lib.hid hlt1
  have H1 := Lib.hid h1
  clear h1
  clear hb1 hc1 hlt1 ho1
  have H00 := Lib.hid (Since.refl w1)
  go_wp2_with fail
  refine c2.calls H00.out ?_
  intro w2 h2
  have H2 := Lib.hid h2
  clear h2
  go_wp2_with fail
  refine (c3).calls ?_
  go_wp2_with ((with_reducible refine wpList_build_at (some 23) 129 #[(0, .tmp 17), (1, .tmp 19), (2, .tmp 22)] _ X ?_ HBD.out ?_) <;> try rfl)
  have hrow0 : (w2.alloc (.cells X 129)).rowIs w2.heap.size 129 2034 (cipF ks (key.size : Int) (((n + 6 : Nat)) : Int) 0) := by
    have h := World.rowIs_alloc w2 X 129 _ (fun i hi => HXr.out i (by rw [← HXs.out]; exact hi))
    rw [HXs.out] at h
    exact h
  have HR0 := Lib.hid hrow0
  have HS0 : Hid (Since w1 (w2.alloc (.cells X 129))) := Lib.hid (Since.alloc H2.out _)
  have HG : Hid (w1.heap.size ≤ w2.heap.size) := Lib.hid (Below.size H2.out)
  clear hrow0 c1 c2 c3 HBD HXs HXr
  obtain ⟨g, hg⟩ : ∃ g, g = w2.heap.size := ⟨_, rfl⟩
  obtain ⟨W, hW⟩ : ∃ W, W = w2.alloc (.cells X 129) := ⟨_, rfl⟩
  rw [← hW, ← hg] at HR0
  rw [← hW] at HS0
  rw [← hg] at HG
  rw [← hg, ← hW]
  clear hg hW H2 H00 H0
  go_loopw [27] (fun i wr => ∃ k : Nat, k ≤ n + 7 ∧ i = .int .i64 (k : Int) ∧ Hid (wr.rowIs g 129 2034 (cipF ks (key.size : Int) (((n + 6 : Nat)) : Int) k)) ∧ Hid (Since w1 wr)) (fun i _ => n + 7 - (intOf i).toNat)
  case atStart => exact ⟨0, by omega, rfl, HR0, HS0⟩
  case round =>
    clear HR0 HS0
    obtain ⟨k, hk, rfl, HR, HS⟩ := hrel
    by_cases hlt : k < n + 7
    · have hd : decide ((k : Int) < (n : Int) + 7) = true := decide_eq_true (by omega)
      have hck := (HS.out.below.cell (p := ⟨b1, o1 + k, none⟩) HL1.out).trans (HC1.out k (by rw [hKZ.out]; exact hlt))
      have hsk := Hsz.out k hlt
      obtain ⟨S, hS⟩ : ∃ S, S = ks.getD k ⟨#[]⟩ := ⟨_, rfl⟩
      rw [← hS] at hck hsk
      have hrk : S.data.toList = rk ks k := by rw [hS]; rfl
      obtain ⟨w3, hrun, hrow, hbel⟩ := run_copy_str wr S g 129 (1794 + k * 16) 2034 16 16 3 _ (some ⟨g, 1794 + k * 16, none⟩) HR.out (fun _ => rfl) (by omega) (by omega)
      have HR3 : Hid (w3.rowIs g 129 2034 (cipF ks (key.size : Int) (((n + 6 : Nat)) : Int) (k + 1))) := Lib.hid (hrow.congr fun p _ => by rw [Nat.mul_comm k 16]; exact cip_step ks _ _ k _ hrk hsk p)
      have HS3 : Hid (Since w1 w3) := Lib.hid (hbel _ _ HS.out HG.out)
      have hsl : ∀ w', (Instr.sliceAt 126 (.pointer (some ⟨g, 1794 + k * 16, none⟩)) none none none).run Tryd.prog w' = .ok (.slice (some ⟨g, 1794 + k * 16, none⟩) 16 16) w' := slice_b _ _
      have i1 : (0 : Int) ≤ (k : Int) := by omega
      have i2 : (k : Int) < (n : Int) + 7 := by omega
      have i3 : (k : Int) < 15 := by omega
      clear hS hrk hrow hbel hsk
      have Hrun := Lib.hid hrun
      clear hrun
      go_wp2_with ((with_reducible refine Lib.wpList_copy_run (P := Tryd.prog) _ (o := ⟨some 39, _, _, _, _, _⟩) ?_ (.tmp 37) (.tmp 38) 97 9 ?_ _ _ ?_ ?_ Hrun.out ?_) <;> try rfl)
      go_roundw
      case rel => exact ⟨k + 1, by omega, by go_num, HR3, HS3⟩
      case measure => simp [intOf]; omega
    · have hd : decide ((k : Int) < (n : Int) + 7) = false := decide_eq_false (by omega)
      have hC := cip_of_row (n := n + 6) (by rw [show n + 6 + 1 = k from by omega]; exact HR.out) (by omega)
      have HC := Lib.hid hC
      clear hC
      go_wp2_with fail
      go_ret2
      exact ⟨g, rfl, HC.out, Since.step H1.out HS.out⟩
set_option maxRecDepth 100000 in
theorem MakC.calls {f : Nat} {args : Array Value} {ks : List ByteArray} {n : Nat} {len : Int} (h : MakC f args ks n len) {W0 w : World} (hs : Since W0 w) {R : Ending → World → Prop} (k : ∀ c w', Cip w' c ks n len → Since W0 w' → R (.returned (.tuple #[.pointer (some ⟨c, 0, none⟩), .int .i64 0])) w') : Calls Tryd.prog f args w R :=
  (h w).mono fun _ _ ⟨c, he, hc, hb⟩ => by subst he; exact k c _ hc (hs.step hb)
end Aes
end Go.Proofs.YtgfdomdbjiflmaaDoor

/- Package aes: its functions on blocks. -/
namespace Go.Proofs.YtgfdomdbjiflmaaDoor
open Go.RowKit
namespace Aes
open Rnd

/-- a cipher of a key lies in block c -/
def CipK (w : World) (c : Nat) (key : ByteArray) : Prop := keyOk key ∧ Cip w c (Sched.keysL key.data.toList (key.size / 4)) (key.size / 4 + 6) (key.size : Int)
theorem CipK.since {w w' : World} {c : Nat} {key : ByteArray} (h : CipK w c key) (hs : Since w w') : CipK w' c key := ⟨h.1, h.2.since hs⟩
/-- a call that makes a cipher of a key -/
def MakK (f : Nat) (args : Array Value) (key : ByteArray) : Prop := ∀ (W0 w : World) (_ : Since W0 w) (R : Ending → World → Prop) (_ : ∀ c w', CipK w' c key → Since w w' → Since W0 w' → R (.returned (.tuple #[.pointer (some ⟨c, 0, none⟩), .int .i64 0])) w'), Calls Tryd.prog f args w R
theorem new_key (key : ByteArray) (hk : keyOk key) : MakK 78 #[.string key] key := by
  intro W0 w hs R k
  have hk2 := hk
  unfold keyOk at hk2
  refine (new_yes key (key.size / 4) (by omega) (by omega) w).mono fun e w' ⟨c, he, hc, hb⟩ => ?_
  subst he
  exact k c w' ⟨hk, hc⟩ hb (hs.step hb)
theorem key_ne {key : ByteArray} (hk : keyOk key) : ((key.size : Int) == 0) = false := by
  unfold keyOk at hk
  rw [beq_eq_false_iff_ne]; omega
theorem key_rn {key : ByteArray} (hk : keyOk key) : key.size / 4 + 6 ≤ 14 ∧ 1 ≤ key.size / 4 + 6 := by
  unfold keyOk at hk; omega
set_option maxRecDepth 100000 in
theorem cenc_no (c : Nat) (key b : ByteArray) (hb : b.size ≠ 16) (hm : b.size ≤ 140737488355328) (w : World) (hC : CipK w c key) : Calls Tryd.prog 83 #[.pointer (some ⟨c, 0, none⟩), .string b] w fun e w' => e = .returned (.tuple #[.string ⟨#[]⟩, .int .i64 4]) ∧ Since w w' :=
  enc_no c _ _ _ (key_ne hC.1) b hb hm w hC.2
set_option maxRecDepth 100000 in
theorem cenc_yes (c : Nat) (key b : ByteArray) (hb : b.size = 16) (X : ByteArray) (hX : X = encK key b) (w : World) (hC : CipK w c key) : Calls Tryd.prog 83 #[.pointer (some ⟨c, 0, none⟩), .string b] w fun e w' => e = .returned (.tuple #[.string X, .int .i64 0]) ∧ Since w w' :=
  enc_yes c _ _ (key_rn hC.1).1 (key_rn hC.1).2 _ (key_ne hC.1) b hb X hX w hC.2
set_option maxRecDepth 100000 in
theorem csize (c : Nat) (key : ByteArray) (w : World) (hC : CipK w c key) : Calls Tryd.prog 111 #[.pointer (some ⟨c, 0, none⟩)] w fun e w' => e = .returned (.int .i64 (key.size : Int)) ∧ w = w' := size_ret c _ w hC.2.ln
set_option maxRecDepth 100000 in
theorem encrypt_nokey (key b : ByteArray) (hm : key.size ≤ 1000000) (h : ¬ keyOk key) : Ret 63 #[.string key, .string b] (.tuple #[.string ⟨#[]⟩, .int .i64 2]) := by
  intro w
  have c1 := new_no key hm h
  clear h
  go_enter Tryd.func63, Tryd.ntmps63
  go_wp2_with fail
  refine (c1).calls ?_
  go_wp2_with fail
  go_ret2
  exact ⟨rfl, rfl⟩
set_option maxRecDepth 100000 in
theorem encrypt_nosize (key b : ByteArray) (hk : keyOk key) (hb : b.size ≠ 16) (hm : b.size ≤ 140737488355328) : Mak 63 #[.string key, .string b] (.tuple #[.string ⟨#[]⟩, .int .i64 4]) := by
  intro w
  have c1 := new_key key hk
  have c2 := fun c w hC => cenc_no c key b hb hm w hC
  have H0 := Lib.hid (Since.refl w)
  have C2 := Lib.hid c2
  clear hk c2 hb
  go_enter Tryd.func63, Tryd.ntmps63
  go_wp2_with fail
  refine c1 _ _ H0.out _ ?_
  intro c w1 hC _ h1
  have HC := Lib.hid hC
  have H1 := Lib.hid h1
  clear hC h1
  go_wp2_with fail
  refine (C2.out c w1 HC.out).mono ?_
  rintro e w2 ⟨rfl, h2⟩
  have H2 := Lib.hid (Since.step H1.out h2)
  clear h2
  go_wp2_with fail
  go_ret2
  exact ⟨rfl, H2.out⟩
set_option maxRecDepth 100000 in
theorem encrypt_yes (key b : ByteArray) (hk : keyOk key) (hb : b.size = 16) (X : ByteArray) (hX : X = encK key b) : Mak 63 #[.string key, .string b] (.tuple #[.string X, .int .i64 0]) := by
  intro w
  have c1 := new_key key hk
  have c2 := fun c w hC => cenc_yes c key b hb X hX w hC
  have H0 := Lib.hid (Since.refl w)
  have C2 := Lib.hid c2
  clear hk c2 hb hX
  go_enter Tryd.func63, Tryd.ntmps63
  go_wp2_with fail
  refine c1 _ _ H0.out _ ?_
  intro c w1 hC _ h1
  have HC := Lib.hid hC
  have H1 := Lib.hid h1
  clear hC h1
  go_wp2_with fail
  refine (C2.out c w1 HC.out).mono ?_
  rintro e w2 ⟨rfl, h2⟩
  have H2 := Lib.hid (Since.step H1.out h2)
  clear h2
  go_wp2_with fail
  go_ret2
  exact ⟨rfl, H2.out⟩
end Aes
end Go.Proofs.YtgfdomdbjiflmaaDoor

/- Package aes: many blocks. -/
namespace Go.Proofs.YtgfdomdbjiflmaaDoor
open Go.RowKit
namespace Aes
open Rnd RefAes

end Aes
end Go.Proofs.YtgfdomdbjiflmaaDoor

/- Package cmac: doubling. -/
namespace Go.Proofs.YtgfdomdbjiflmaaDoor
open Go.RowKit
namespace Cmac
open Rnd Aes

set_option maxRecDepth 100000 in
/-- a row of bytes as a string, whatever the row's type -/
theorem conv_row (w : World) (b t n : Nat) (f : Nat → Value) (l : List UInt8) (h : w.rowIs b t n f) (hl : l.length = n) (hf : ∀ j, j < n → f j = .int .u8 ((ent l j : Nat) : Int)) :
    (convert 97 9 (.slice (some ⟨b, 0, none⟩) n n)).run Tryd.prog w = .ok (.string (bs l)) w := by
  have g := run_convert_bytes_arg (P := Tryd.prog) w 97 5 Tryd.underlying97 Tryd.underlying5 b 0 n n (l.map fun c => (c.toNat : Int)) (by rw [List.length_map, hl]) (fun i hi => by
    rw [Nat.zero_add, h.cell hi, hf i hi]
    unfold ent
    simp [List.getD, List.getElem?_eq_getElem (show i < l.length by omega)]) 9 Tryd.underlying9
  rw [g, nums_bytes]
set_option maxRecDepth 100000 in
theorem slice_16 (b o : Nat) (w : World) : (Instr.sliceAt 109 (.pointer (some ⟨b, o, none⟩)) none none none).run Tryd.prog w = .ok (.slice (some ⟨b, o, none⟩) 16 16) w := by kernel_rfl
/-- the carry out of byte j -/
def carN (l : List UInt8) (j : Nat) : Nat := if j < 16 then ent l j / 128 else 0
def preN (l : List UInt8) (j : Nat) : Nat := ent l j * 2 % 256 + carN l (j + 1)
def dblN (l : List UInt8) (j : Nat) : Nat := if j = 15 ∧ carN l 0 ≠ 0 then preN l j ^^^ 135 else preN l j
def dblL (l : List UInt8) : List UInt8 := mk16 (dblN l)
theorem carN_lt (l : List UInt8) (j : Nat) : carN l j < 2 := by
  unfold carN
  have := ent_lt l j
  split <;> omega
theorem preN_lt (l : List UInt8) (j : Nat) : preN l j < 256 := by
  unfold preN
  have := carN_lt l (j + 1)
  omega
theorem dblN_lt (l : List UInt8) (j : Nat) : dblN l j < 256 := by
  unfold dblN
  have := preN_lt l j
  split
  · exact Nat.xor_lt_two_pow (n := 8) this (by decide)
  · exact this
theorem dblL_len (l : List UInt8) : (dblL l).length = 16 := mk16_len _
theorem dblL_ent (l : List UInt8) (j : Nat) (h : j < 16) : ent (dblL l) j = dblN l j := mk16_ent _ j h (dblN_lt l j)
theorem or_all : (List.range 256).all (fun x => (List.range 2).all fun c => bits .or .u8 ((x : Int) * 2 % 256) (c : Int) == ((x * 2 % 256 + c : Nat) : Int)) = true := by decide +kernel
theorem or_carry (x c : Nat) (hx : x < 256) (hc : c < 2) : bits .or .u8 ((x : Int) * 2 % 256) (c : Int) = ((x * 2 % 256 + c : Nat) : Int) := by
  have h := or_all
  rw [List.all_eq_true] at h
  have h1 := h x (List.mem_range.2 hx)
  rw [List.all_eq_true] at h1
  have h2 := h1 c (List.mem_range.2 hc)
  rwa [beq_iff_eq] at h2
def dblK (b : ByteArray) : ByteArray := bs (dblL b.data.toList)
theorem dblK_size (b : ByteArray) : (dblK b).size = 16 := by unfold dblK; rw [size_bs, dblL_len]
set_option maxRecDepth 100000 in
theorem double_no (b : ByteArray) (hb : b.size ≠ 16) : Ret 93 #[.string b] (.string ⟨#[]⟩) := by
  intro w
  have hn : ((b.size : Int) == 16) = false := by rw [beq_eq_false_iff_ne]; omega
  have hn2 : ((b.size : Int) != 16) = true := by rw [bne_iff_ne]; omega
  go_enter Tryd.func93, Tryd.ntmps93
  go_wp2_with fail
  go_ret
  exact ⟨rfl, rfl⟩
set_option maxRecDepth 100000 in
set_option maxHeartbeats 2000000 in
theorem double_yes (b : ByteArray) (hb : b.size = 16) (X : ByteArray) (hX : X = dblK b) : Mak 93 #[.string b] (.string X) := by
  intro w
  have hn : ((b.size : Int) == 16) = true := by rw [beq_iff_eq]; omega
  have hn2 : ((b.size : Int) != 16) = false := by rw [bne_eq_false_iff_eq]; omega
  obtain ⟨l, hl⟩ : ∃ l, l = b.data.toList := ⟨_, rfl⟩
  have HL := Lib.hid hl
  have HX := Lib.hid hX
  have HB := Lib.hid hb
  clear hb hX hl
  go_enter Tryd.func93, Tryd.ntmps93
  go_wp2_with fail
  go_loopw [4, 5] (fun c i wr => ∃ (k : Nat) (x : Int), k ≤ 16 ∧ i = .int .i64 x ∧ Hid (x = (k : Int) - 1) ∧ c = .int .u8 ((carN l k : Nat) : Int) ∧ Hid (wr.rowIs w.heap.size 109 16 (fun p => if k ≤ p then .int .u8 ((preN l p : Nat) : Int) else .int .u8 0)) ∧ Hid (Since w wr)) (fun _ i _ => (intOf i + 1).toNat)
  case atStart =>
    refine ⟨16, 15, by omega, rfl, Lib.hid rfl, rfl, Lib.hid ?_, Lib.hid ((Since.refl w).alloc _)⟩
    exact (zrow w 109 Z16 rfl z16).congr fun j hj => by rw [if_neg (by omega)]
  case round =>
    obtain ⟨k, x, hk, rfl, HXX, rfl, HR, HS⟩ := hrel
    by_cases hk0 : k = 0
    · obtain rfl : x = -1 := by have := HXX.out; omega
      subst hk0
      obtain ⟨c0, hc0⟩ : ∃ c, c = carN l 0 := ⟨_, rfl⟩
      rw [← hc0]
      have hsl : ∀ w', (Instr.sliceAt 109 (.pointer (some ⟨w.heap.size, 0, none⟩)) none none none).run Tryd.prog w' = .ok (.slice (some ⟨w.heap.size, 0, none⟩) 16 16) w' := slice_16 _ _
      have HR2 := Lib.hid (HR.out.congr (g := fun p => .int .u8 ((preN l p : Nat) : Int)) fun p _ => by rw [if_pos (Nat.zero_le _)])
      by_cases hc : c0 = 0
      · have t1 : ((c0 : Int) != 0) = false := by rw [bne_eq_false_iff_eq]; omega
        have hcv := conv_row wr w.heap.size 109 16 _ (dblL l) HR2.out (dblL_len l) (fun j hj => by
          rw [dblL_ent l j hj]
          unfold dblN
          rw [if_neg (by rw [← hc0]; omega)])
        have e : bs (dblL l) = X := by rw [HX.out, dblK, HL.out]
        rw [e] at hcv
        clear hc hc0
        go_wp2_with fail
        go_ret
        exact ⟨rfl, HS.out⟩
      · have t1 : ((c0 : Int) != 0) = true := by rw [bne_iff_ne]; omega
        have hcl := HR2.out.cell (i := 15) (by decide)
        have hf := HR2.out.frozen 15
        have hp := preN_lt l 15
        obtain ⟨p, hpe⟩ : ∃ p, p = preN l 15 := ⟨_, rfl⟩
        rw [← hpe] at hcl hp
        have hxo : bits .xor .u8 (p : Int) 135 = ((p ^^^ 135 : Nat) : Int) := u8_xor_nat p 135 hp (by decide)
        have hcv := conv_row (wr.setCell ⟨w.heap.size, 15, none⟩ (.int .u8 ((p ^^^ 135 : Nat) : Int))) w.heap.size 109 16 _ (dblL l) (HR2.out.set 15 _) (dblL_len l) (fun j hj => by
          rw [dblL_ent l j hj]
          unfold dblN
          by_cases h : j = 15
          · rw [if_pos h, if_pos ⟨h, by rw [← hc0]; exact hc⟩, h, hpe]
          · rw [if_neg h, if_neg (fun h2 => h h2.1)])
        have e : bs (dblL l) = X := by rw [HX.out, dblK, HL.out]
        rw [e] at hcv
        clear hc hc0 hpe
        go_wp2_with fail
        go_ret
        exact ⟨rfl, Below.setCell (p := ⟨w.heap.size, 15, none⟩) HS.out (Nat.le_refl _) _⟩
    · obtain ⟨m, hm⟩ : ∃ m, k = m + 1 := ⟨k - 1, by omega⟩
      obtain rfl : x = (m : Int) := by have := HXX.out; omega
      have hm16 : m < 16 := by omega
      have hks : m < b.size := by have := HB.out; omega
      have hd : decide ((0 : Int) ≤ (m : Int)) = true := decide_eq_true (by omega)
      obtain ⟨o, hcl⟩ : ∃ o, wr.cell? ⟨w.heap.size, m, none⟩ = some o := ⟨_, HR.out.cell (i := m) hm16⟩
      have hf := HR.out.frozen m
      obtain ⟨c0, hc0⟩ : ∃ c, c = carN l k := ⟨_, rfl⟩
      rw [← hc0]
      have i1 : (0 : Int) ≤ (m : Int) := by omega
      have i2 : (m : Int) < 16 := by omega
      have i3 : (m : Int) < (b.size : Int) := by omega
      have Hm := Lib.hid hm
      clear hm
      have Hc0 := Lib.hid hc0
      clear hc0
      clear hk0
      go_wp2_with fail
      go_roundw
      case rel =>
        have hs := ent_s b m hks
        rw [← HL.out] at hs
        refine ⟨m, (m : Int) - 1, by omega, rfl, Lib.hid rfl, ?_, Lib.hid ((HR.out.set m _).congr fun p hp => ?_), Lib.hid (Below.setCell (p := ⟨w.heap.size, m, none⟩) HS.out (Nat.le_refl _) _)⟩
        · unfold carN
          rw [if_pos hm16, hs]; rfl
        · have hmm := Hm.out
          by_cases h : p = m
          · rw [if_pos h, if_pos (by omega), h, ← hs]
            have h9 := or_carry (ent l m) c0 (ent_lt _ _) (by rw [Hc0.out]; exact carN_lt _ _)
            rw [h9, Hc0.out, hmm]; rfl
          · rw [if_neg h]
            by_cases h3 : k ≤ p
            · rw [if_pos h3, if_pos (by omega)]
            · rw [if_neg h3, if_neg (by omega)]
      case measure => simp [intOf]
end Cmac
end Go.Proofs.YtgfdomdbjiflmaaDoor

/- The reference of cmac: doubling. -/
namespace Go.Proofs.YtgfdomdbjiflmaaDoor
open Go.RowKit
namespace RefCmac
open Rnd Aes Cmac

end RefCmac
end Go.Proofs.YtgfdomdbjiflmaaDoor

/- Package cbc: chains of blocks. -/
namespace Go.Proofs.YtgfdomdbjiflmaaDoor
open Go.RowKit
namespace Cbc
open Rnd Aes RefAes

/-- the block ahead of block k, of a chain -/
def prevE (f : ByteArray → ByteArray) (iv : ByteArray) (l : List UInt8) : Nat → ByteArray
  | 0 => iv
  | k + 1 => f (Sched.xorS (Oct.pc l 16 k) (prevE f iv l k))
def chainE (f : ByteArray → ByteArray) (iv : ByteArray) (l : List UInt8) : Nat → List UInt8
  | 0 => []
  | k + 1 => chainE f iv l k ++ (prevE f iv l (k + 1)).data.toList
def prevD (iv : ByteArray) (l : List UInt8) : Nat → ByteArray
  | 0 => iv
  | k + 1 => Oct.pc l 16 k
def chainD (f : ByteArray → ByteArray) (iv : ByteArray) (l : List UInt8) : Nat → List UInt8
  | 0 => []
  | k + 1 => chainD f iv l k ++ (Sched.xorS (f (Oct.pc l 16 k)) (prevD iv l k)).data.toList
theorem prevE_size (f : ByteArray → ByteArray) (hf : ∀ b, (f b).size = 16) (iv : ByteArray) (hiv : iv.size = 16) (l : List UInt8) (k : Nat) : (prevE f iv l k).size = 16 := by
  cases k with
  | zero => exact hiv
  | succ k => exact hf _
theorem chainE_len (f : ByteArray → ByteArray) (hf : ∀ b, (f b).size = 16) (iv : ByteArray) (l : List UInt8) (k : Nat) : (chainE f iv l k).length = 16 * k := by
  induction k with
  | zero => rfl
  | succ k ih =>
    rw [chainE, List.length_append, ih]
    have : (prevE f iv l (k + 1)).data.toList.length = 16 := hf _
    omega
theorem pc_size (l : List UInt8) (k : Nat) (h : 16 * k + 16 ≤ l.length) : (Oct.pc l 16 k).size = 16 := by
  unfold Oct.pc
  rw [size_bs, List.length_take, List.length_drop]; omega
theorem prevD_size (iv : ByteArray) (hiv : iv.size = 16) (l : List UInt8) (k : Nat) (h : 16 * k ≤ l.length) : (prevD iv l k).size = 16 := by
  cases k with
  | zero => exact hiv
  | succ k => exact pc_size l k (by omega)
theorem chainD_len (f : ByteArray → ByteArray) (hf : ∀ b, (f b).size = 16) (iv : ByteArray) (hiv : iv.size = 16) (l : List UInt8) (k : Nat) (h : 16 * k ≤ l.length) : (chainD f iv l k).length = 16 * k := by
  induction k with
  | zero => rfl
  | succ k ih =>
    rw [chainD, List.length_append, ih (by omega)]
    have h1 : (Sched.xorS (f (Oct.pc l 16 k)) (prevD iv l k)).data.toList.length = 16 := by
      show (Sched.xorS (f (Oct.pc l 16 k)) (prevD iv l k)).size = 16
      rw [Sched.xorS_size, hf, prevD_size iv hiv l k (by omega)]; rfl
    omega
def encC (key iv s : ByteArray) : ByteArray := bs (chainE (encK key) iv s.data.toList (s.size / 16))
def decC (key iv s : ByteArray) : ByteArray := bs (chainD (decK key) iv s.data.toList (s.size / 16))
theorem xor16_size (a b : ByteArray) (ha : a.size = 16) (hb : b.size = 16) : (Sched.xorS a b).size = 16 := by rw [Sched.xorS_size, ha, hb]; rfl

end Cbc
end Go.Proofs.YtgfdomdbjiflmaaDoor

/- Package cmac: subkeys, tags. -/
namespace Go.Proofs.YtgfdomdbjiflmaaDoor
open Go.RowKit
namespace Cmac
open Rnd Aes

def zero : ByteArray := strOfNums (List.replicate 16 0)
theorem zero_size : zero.size = 16 := by unfold zero; rw [strOfNums_size]; simp
def sub1 (key : ByteArray) : ByteArray := dblK (encK key zero)
def sub2 (key : ByteArray) : ByteArray := dblK (sub1 key)
theorem sub1_size (key : ByteArray) : (sub1 key).size = 16 := dblK_size _
theorem sub2_size (key : ByteArray) : (sub2 key).size = 16 := dblK_size _
/-- how many blocks n bytes are -/
def blkN (n : Nat) : Nat := if n = 0 then 1 else (n - 1) / 16 + 1
/-- a piece that is no whole block -/
def padB (b : ByteArray) : ByteArray := bs (b.data.toList ++ 128 :: List.replicate (15 - b.size) 0)
theorem padB_size (b : ByteArray) (h : b.size ≤ 15) : (padB b).size = 16 := by
  have h9 : b.data.toList.length = b.size := rfl
  unfold padB
  rw [size_bs, List.length_append, List.length_cons, List.length_replicate]; omega
def lastB (key b : ByteArray) : ByteArray := if b.size = 16 then Sched.xorS b (sub1 key) else Sched.xorS (padB b) (sub2 key)
theorem lastB_size (key b : ByteArray) (h : b.size ≤ 16) : (lastB key b).size = 16 := by
  unfold lastB
  split
  · exact Cbc.xor16_size _ _ ‹_› (sub1_size _)
  · exact Cbc.xor16_size _ _ (padB_size b (by omega)) (sub2_size _)
def tagS (key : ByteArray) (l : List UInt8) : Nat → ByteArray
  | 0 => zero
  | i + 1 => encK key (Sched.xorS (tagS key l i) (Oct.pc l 16 i))
theorem tagS_size (key : ByteArray) (l : List UInt8) (i : Nat) : (tagS key l i).size = 16 := by
  cases i with
  | zero => exact zero_size
  | succ i => exact encK_size _ _
/-- the tag of a text -/
def tagK (key s : ByteArray) : ByteArray := encK key (Sched.xorS (tagS key s.data.toList (blkN s.size - 1)) (lastB key (Oct.pc s.data.toList 16 (blkN s.size - 1))))
theorem tagK_size (key s : ByteArray) : (tagK key s).size = 16 := encK_size _ _

theorem zeros_m : Mak 80 #[.int .i64 16] (.string zero) := fun w => Oct.zeros_yes 16 w (by decide) (by decide)
set_option maxRecDepth 100000 in
theorem subkeys_calls (c : Nat) (key : ByteArray) (w : World) (hC : CipK w c key) (A B : ByteArray) (hA : A = sub1 key) (hB : B = sub2 key) :
    Calls Tryd.prog 79 #[.pointer (some ⟨c, 0, none⟩)] w fun e w' => e = .returned (.tuple #[.string A, .string B, .int .i64 0]) ∧ Since w w' := by
  have H0 := Lib.hid (Since.refl w)
  have HC := Lib.hid hC
  obtain ⟨Z, hZ⟩ : ∃ Z, Z = zero := ⟨_, rfl⟩
  obtain ⟨Y, hY⟩ : ∃ Y, Y = encK key Z := ⟨_, rfl⟩
  have c1 := zeros_m
  rw [← hZ] at c1
  have hZs : Z.size = 16 := by rw [hZ, zero_size]
  have c2 := fun w' (h : Since w w') => cenc_yes c key Z hZs Y hY w' (hC.since h)
  have c3 := double_yes Y (by rw [hY, encK_size]) A (by rw [hA, sub1, hY, hZ])
  have c4 := double_yes A (by rw [hA, sub1_size]) B (by rw [hB, sub2, hA])
  clear hC hZ hY hA hB hZs
  have H_c2 := Lib.hid c2
  clear c2
  go_enter Tryd.func79, Tryd.ntmps79
  go_wp2_with fail
  refine c1.calls H0.out ?_
  intro w1 h1
  have H1 := Lib.hid h1
  clear h1
  go_wp2_with fail
  refine (H_c2.out _ H1.out).mono ?_
  rintro e w2 ⟨rfl, h2⟩
  have H2 := Lib.hid (Since.step H1.out h2)
  clear h2
  go_wp2_with fail
  refine c3.calls H2.out ?_
  intro w3 h3
  have H3 := Lib.hid h3
  clear h3
  go_wp2_with fail
  refine c4.calls H3.out ?_
  intro w4 h4
  have H4 := Lib.hid h4
  clear h4
  go_wp2_with fail
  go_ret3
  exact ⟨rfl, H4.out⟩
set_option maxRecDepth 100000 in
theorem blocks_neg (n : Int) (h : n < 0) : Ret 81 #[.int .i64 n] (.int .i64 0) := by
  intro w
  go_enter Tryd.func81, Tryd.ntmps81
  go_wp2_with fail
  go_ret
  exact ⟨rfl, rfl⟩
set_option maxRecDepth 100000 in
theorem blocks_nat (n : Nat) (hm : n ≤ 9223372036854775807) (x : Int) (hx : x = ((blkN n : Nat) : Int)) : Ret 81 #[.int .i64 (n : Int)] (.int .i64 x) := by
  intro w
  by_cases h0 : n = 0
  · subst h0
    have hx1 : x = 1 := hx
    subst hx1
    clear hx
    go_enter Tryd.func81, Tryd.ntmps81
    go_wp2_with fail
    go_ret
    exact ⟨rfl, rfl⟩
  · have hx1 : x = ((n : Int) - 1) / 16 + 1 := by rw [hx, blkN, if_neg h0]; omega
    subst hx1
    have t1 : decide ((n : Int) < 0) = false := decide_eq_false (by omega)
    have t2 : ((n : Int) == 0) = false := by rw [beq_eq_false_iff_ne]; omega
    have i1 : (0 : Int) ≤ (n : Int) - 1 := by omega
    clear h0 hx
    go_enter Tryd.func81, Tryd.ntmps81
    go_wp2_with fail
    go_ret
    exact ⟨rfl, rfl⟩
set_option maxRecDepth 100000 in
set_option maxHeartbeats 1000000 in
theorem last_mak (key b A B X : ByteArray) (hb : b.size ≤ 16) (hA : A = sub1 key) (hB : B = sub2 key) (hX : X = lastB key b) : Mak 82 #[.string b, .string A, .string B] (.string X) := by
  intro w
  have H0 := Lib.hid (Since.refl w)
  have hAs : A.size = 16 := by rw [hA, sub1_size]
  have hBs : B.size = 16 := by rw [hB, sub2_size]
  by_cases h : b.size = 16
  · have t1 : ((b.size : Int) == 16) = true := by rw [beq_iff_eq]; omega
    have c1 := Sched.xor_m b A (by omega) (by omega) X (by rw [hX, lastB, if_pos h, hA])
    clear h hX hA hB hAs hBs
    go_enter Tryd.func82, Tryd.ntmps82
    go_wp2_with fail
    refine c1.calls H0.out ?_
    intro w1 h1
    have H1 := Lib.hid h1
    clear h1
    go_wp2_with fail
    go_ret
    exact ⟨rfl, H1.out⟩
  · have t1 : ((b.size : Int) == 16) = false := by rw [beq_eq_false_iff_ne]; omega
    have h9 : b.data.toList.length = b.size := rfl
    obtain ⟨J, hJ⟩ : ∃ J, J = bs (b.data.toList ++ [128]) := ⟨_, rfl⟩
    have hJs : J.size = b.size + 1 := by rw [hJ, size_bs, List.length_append]; rfl
    have hJc : J = bs (Oct.cat [b, ⟨#[128]⟩]) := by rw [hJ, Oct.cat_two]
    have c8 := fun W => Oct.join_lit W [b, ⟨#[128]⟩] 2 rfl #[.string b, .string ⟨#[128]⟩] rfl J hJc (by omega) (by decide)
    have HC8 := Lib.hid c8
    obtain ⟨P, hP⟩ : ∃ P, P = padB b := ⟨_, rfl⟩
    have hPs : P.size = 16 := by rw [hP]; exact padB_size b (by omega)
    have c2 : Mak 94 #[.string J, .int .i64 16] (.string P) := fun W => by
      by_cases h15 : b.size = 15
      · have hPJ : P = J := by rw [hP, hJ, padB, h15]; rfl
        rw [hPJ]
        exact (Oct.pad_even J 16 W (by omega) (by decide) (by decide) (by omega)).mono fun e w' ⟨he, hw⟩ => ⟨he, by subst hw; exact Below.refl _ _⟩
      · have h2 := Oct.pad_odd J 16 (b.size + 1) W (by omega) (by decide) (by decide) (by omega) (by omega)
        have hPJ : bs (J.data.toList ++ List.replicate (16 - (b.size + 1)) 0) = P := by
          rw [hP, hJ, padB, list_bs, List.append_assoc, show 16 - (b.size + 1) = 15 - b.size from by omega]; rfl
        rw [hPJ] at h2
        exact h2
    have c3 := Sched.xor_m P B (by omega) (by omega) X (by rw [hX, lastB, if_neg h, hB, hP])
    clear h hX hA hB hAs hBs hJ hJs hJc c8 hP hPs h9
    go_enter Tryd.func82, Tryd.ntmps82
    go_wp2_with fail
    refine (HC8.out w).mono ?_
    rintro e w1 ⟨rfl, h1⟩
    have H1 := Lib.hid (Since.step H0.out h1)
    clear h1
    go_wp2_with fail
    refine c2.calls H1.out ?_
    intro w2 h2
    have H2 := Lib.hid h2
    clear h2
    go_wp2_with fail
    refine c3.calls H2.out ?_
    intro w3 h3
    have H3 := Lib.hid h3
    clear h3
    go_wp2_with fail
    go_ret
    exact ⟨rfl, H3.out⟩
end Cmac
end Go.Proofs.YtgfdomdbjiflmaaDoor
