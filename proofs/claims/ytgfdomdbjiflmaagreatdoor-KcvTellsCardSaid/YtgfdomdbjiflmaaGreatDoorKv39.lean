/- Joined texts. -/
-- PACK: YtgfdomdbjiflmaaGreatDoorRefRnd
import Derived.Test.YtgfdomdbjiflmaaGreatDoorKv36
import Derived.Test.YtgfdomdbjiflmaaGreatDoorKv3
import Derived.Test.YtgfdomdbjiflmaaGreatDoorKv19
import Derived.Test.YtgfdomdbjiflmaaGreatDoorKv22
import Derived.Test.YtgfdomdbjiflmaaGreatDoorKv23
import Derived.Deep.QuietTactic
import Derived.BigQuiet
import Derived.IntWalk
import Derived.Laws.BitsAllLaws

/- The reference of package round. -/
namespace Go.Proofs.YtgfdomdbjiflmaaGreatDoor
open Go.RowKit
namespace RefRnd
open Rnd

set_option maxRecDepth 100000 in
theorem fits_ret (s : ByteArray) (b : Bool) (_hm : s.size ≤ 140737488355328) (hb : b = decide (s.size = 16)) : Ret 126 #[.string s] (.bool b) := by
  intro w
  by_cases h : s.size = 16
  · rw [decide_eq_true h] at hb
    subst hb
    have h1 : (s.size : Int) = 16 := by omega
    clear h
    go_enter Tryz.func126, Tryz.ntmps126
    go_wp2_with fail
    go_ret
    exact ⟨rfl, rfl⟩
  · rw [decide_eq_false h] at hb
    subst hb
    have h1 : ((s.size : Int) == 16) = false := by rw [beq_eq_false_iff_ne]; omega
    clear h
    go_enter Tryz.func126, Tryz.ntmps126
    go_wp2_with fail
    go_ret
    exact ⟨rfl, rfl⟩
theorem take_snoc (L : List UInt8) (k : Nat) (h : k < L.length) : L.take (k + 1) = L.take k ++ [UInt8.ofNat (ent L k)] := by
  rw [List.take_succ_eq_append_getElem h]
  simp [ent, List.getD, List.getElem?_eq_getElem h]
def movL (n : Nat) (l : List UInt8) : List UInt8 := pickL (fun r c => (c + n * r) % 4) l
theorem mov1 (l : List UInt8) : movL 1 l = shiftL l := by
  unfold movL shiftL; simp only [Nat.one_mul]
theorem mov3 (l : List UInt8) : movL 3 l = unshiftL l := by
  refine ext16 _ _ (pickL_len _ _) (pickL_len _ _) fun i hi => ?_
  unfold movL unshiftL
  rw [pick_ent _ _ _ hi, pick_ent _ _ _ hi]
  congr 1
  omega
set_option maxRecDepth 100000 in
theorem mov_no (s : ByteArray) (n : Int) (hs : s.size ≠ 16) (hm : s.size ≤ 140737488355328) : Ret 155 #[.string s, .int .i64 n] (.string ⟨#[]⟩) := by
  intro w
  have c1 := fits_ret s false hm (by rw [decide_eq_false hs])
  clear hs
  go_enter Tryz.func155, Tryz.ntmps155
  go_wp2_with fail
  refine (c1).calls ?_
  go_wp2_with fail
  go_ret
  exact ⟨rfl, rfl⟩
set_option maxRecDepth 100000 in
set_option maxHeartbeats 2000000 in
theorem mov_yes (s : ByteArray) (hs : s.size = 16) (n : Nat) (hn : n ≤ 3) (X : ByteArray) (hX : X = bs (movL n s.data.toList)) : Ret 155 #[.string s, .int .i64 (n : Int)] (.string X) := by
  intro w
  have c1 := fits_ret s true (by omega) (by rw [decide_eq_true hs])
  obtain ⟨L, hL⟩ : ∃ L, L = movL n s.data.toList := ⟨_, rfl⟩
  have hLl : L.length = 16 := by rw [hL]; exact pickL_len _ _
  rw [← hL] at hX
  have hsi : (s.size : Int) = 16 := by omega
  have HX := Lib.hid hX
  clear hX
  have HL := Lib.hid hL
  clear hL
  have Hs := Lib.hid hs
  clear hs
  have HLl := Lib.hid hLl
  clear hLl
  go_enter Tryz.func155, Tryz.ntmps155
  go_wp2_with fail
  refine (c1).calls ?_
  go_wp2_with fail
  go_loop [5, 6] (fun o i => ∃ (c : Nat) (O : ByteArray), c ≤ 4 ∧ i = .int .i64 (c : Int) ∧ o = .string O ∧ O.size ≤ 16 ∧ Hid (O = bs (L.take (4 * c)))) (fun _ i => 4 - (intOf i).toNat)
  case atStart => exact ⟨0, ⟨#[]⟩, by omega, rfl, rfl, by decide, Lib.hid rfl⟩
  case round =>
    obtain ⟨c, O, hc, rfl, rfl, hO, HO⟩ := hrel
    by_cases hlc : c < 4
    · have hdb : decide ((c : Int) < 4) = true := decide_eq_true (by omega)
      go_wp2_with fail
      go_loop [5, 7] (fun o i => ∃ (r : Nat) (O : ByteArray), r ≤ 4 ∧ i = .int .i64 (r : Int) ∧ o = .string O ∧ O.size ≤ 16 ∧ Hid (O = bs (L.take (4 * c + r)))) (fun _ i => 4 - (intOf i).toNat)
      case atStart => exact ⟨0, O, by omega, rfl, rfl, hO, HO⟩
      case round =>
        clear hO HO
        obtain ⟨r, O, hr, rfl, rfl, hO, HO⟩ := hrel
        by_cases hlr : r < 4
        · obtain ⟨q, hq⟩ : ∃ q, q = (c + n * r) % 4 := ⟨_, rfl⟩
          have hq4 : q < 4 := by omega
          obtain ⟨p, hp⟩ : ∃ p, p = n * r := ⟨_, rfl⟩
          have hp9 : p ≤ 9 := by rw [hp]; exact Nat.mul_le_mul hn (show r ≤ 3 by omega)
          have e0 : (n : Int) * (r : Int) = (p : Int) := by rw [hp, Int.natCast_mul]
          have e1 : ((c : Int) + (p : Int)) % 4 = (q : Int) := by rw [← hp] at hq; omega
          have hent : ent L (4 * c + r) = s[4 * q + r].toNat := by
            rw [HL.out]
            unfold movL
            rw [pick_ent _ _ _ (by omega), show (4 * c + r) % 4 = r from by omega, show (4 * c + r) / 4 = c from by omega, ← hq, ent_s s _ (by have := Hs.out; omega)]
          have hcat : O ++ s.extract (4 * q + r) (4 * q + r + 1) = bs (L.take (4 * c + r + 1)) := by
            apply ba_ext
            rw [app_list, RefOct.one_ext s _ (by have := Hs.out; omega), HO.out, list_bs, list_bs, take_snoc L _ (by have := HLl.out; omega), hent]
            simp
          obtain ⟨O2, hO2⟩ : ∃ O2, O2 = O ++ s.extract (4 * q + r) (4 * q + r + 1) := ⟨_, rfl⟩
          have hO2s : O2.size ≤ 16 := by rw [hO2, hcat, size_bs]; simp; omega
          rw [← hO2] at hcat
          have hx1 : (s.extract (4 * q + r) (4 * q + r + 1)).size = 1 := by simp; have := Hs.out; omega
          have hsz : ¬ 9223372036854775807 < O.size + (s.extract (4 * q + r) (4 * q + r + 1)).size := by omega
          have hrel2 := Lib.hid hcat
          have hO2' := hO2.symm
          clear hent hcat hq hp hO2
          obtain ⟨Pc, hPc⟩ : ∃ Pc, s.extract (4 * q + r) (4 * q + r + 1) = Pc := ⟨_, rfl⟩
          rw [hPc] at hsz hO2' hx1
          go_wp2_with fail
          go_round
          case rel => exact ⟨r + 1, O2, by omega, by go_num, rfl, hO2s, hrel2⟩
          case measure => simp [intOf]; omega
        · obtain rfl : r = 4 := by omega
          go_wp2_with fail
          go_round
          case rel => exact ⟨c + 1, O, by omega, by go_num, rfl, hO, HO⟩
          case measure => simp [intOf]; omega
    · obtain rfl : c = 4 := by omega
      have hO2 : O = X := by rw [HO.out, HX.out, List.take_of_length_le (by have := HLl.out; omega)]
      subst hO2
      go_wp2_with fail
      go_ret
      exact ⟨rfl, rfl⟩

def facS (f : Nat → Nat) (B : ByteArray) : Prop := B.size = 4 ∧ ∀ (j : Nat) (h : j < B.size), B[j].toNat = f j
set_option maxRecDepth 100000 in
theorem mixed_no (s b : ByteArray) (hs : s.size ≠ 16) (hm : s.size ≤ 140737488355328) : Ret 156 #[.string s, .string b] (.string ⟨#[]⟩) := by
  intro w
  have c1 := fits_ret s false hm (by rw [decide_eq_false hs])
  clear hs
  go_enter Tryz.func156, Tryz.ntmps156
  go_wp2_with fail
  refine (c1).calls ?_
  go_wp2_with fail
  go_ret
  exact ⟨rfl, rfl⟩
set_option maxRecDepth 100000 in
theorem conv_any (x : Int) (S : ByteArray) (hS : strOfNums [x] = S) : ∀ (W : World) (g : Nat), W.cell? ⟨g, 0, none⟩ = some (.int .u8 x) → ∀ dst, Tryz.prog.underlying dst = some .string → (convert 86 dst (.slice (some ⟨g, 0, none⟩) 1 1)).run Tryz.prog W = .ok (.string S) W := by
  subst hS
  intro W g hc
  refine run_convert_bytes_arg (P := Tryz.prog) W 86 5 Tryz.underlying86 Tryz.underlying5 g 0 1 1 [x] rfl fun i hi => ?_
  obtain rfl : i = 0 := by omega
  exact hc
theorem one_num (n : Nat) : strOfNums [(n : Int)] = bs [UInt8.ofNat n] := rfl
set_option maxRecDepth 100000 in
set_option maxHeartbeats 4000000 in
theorem mixed_yes (s : ByteArray) (hs : s.size = 16) (f : Nat → Nat) (hf : ∀ j, j < 4 → f j < 256) (B : ByteArray) (hB : facS f B) (X : ByteArray) (hX : X = bs (mixL f s.data.toList)) : Mak 156 #[.string s, .string B] (.string X) := by
  intro w
  have c1 := fits_ret s true (by omega) (by rw [decide_eq_true hs])
  obtain ⟨L, hL⟩ : ∃ L, L = mixL f s.data.toList := ⟨_, rfl⟩
  have hLl : L.length = 16 := by rw [hL]; exact mixL_len _ _
  rw [← hL] at hX
  have hsi : (s.size : Int) = 16 := by omega
  obtain ⟨hb4, hbj⟩ := hB
  have hbi : (B.size : Int) = 4 := by omega
  have HX := Lib.hid hX
  clear hX
  have HL := Lib.hid hL
  clear hL
  have Hs := Lib.hid hs
  clear hs
  have HLl := Lib.hid hLl
  clear hLl
  have Hb4 := Lib.hid hb4
  clear hb4
  have Hbj := Lib.hid hbj
  clear hbj
  have Hf := Lib.hid hf
  clear hf
  go_enter Tryz.func156, Tryz.ntmps156
  go_wp2_with fail
  refine (c1).calls ?_
  go_wp2_with fail
  go_loopw [5, 6] (fun o i wr => ∃ (c : Nat) (O : ByteArray), c ≤ 4 ∧ i = .int .i64 (c : Int) ∧ o = .string O ∧ O.size ≤ 16 ∧ Hid (O = bs (L.take (4 * c))) ∧ Hid (Since w wr)) (fun _ i _ => 4 - (intOf i).toNat)
  case atStart => exact ⟨0, ⟨#[]⟩, by omega, rfl, rfl, by decide, Lib.hid rfl, Lib.hid (Since.refl w)⟩
  case round =>
    obtain ⟨c, O, hc, rfl, rfl, hO, HO, HS⟩ := hrel
    by_cases hlc : c < 4
    · have hdb : decide ((c : Int) < 4) = true := decide_eq_true (by omega)
      go_wp2_with fail
      go_loopw [5, 7] (fun o i wr => ∃ (r : Nat) (O : ByteArray), r ≤ 4 ∧ i = .int .i64 (r : Int) ∧ o = .string O ∧ O.size ≤ 16 ∧ Hid (O = bs (L.take (4 * c + r))) ∧ Hid (Since w wr)) (fun _ i _ => 4 - (intOf i).toNat)
      case atStart => exact ⟨0, O, by omega, rfl, rfl, hO, HO, HS⟩
      case round =>
        clear hO HO HS
        obtain ⟨r, O, hr, rfl, rfl, hO, HO, HS⟩ := hrel
        by_cases hlr : r < 4
        · have hdr : decide ((r : Int) < 4) = true := decide_eq_true (by omega)
          go_wp2_with fail
          go_loopw [8, 9] (fun v i wr => ∃ (n m : Nat), n ≤ 4 ∧ i = .int .i64 (n : Int) ∧ v = .int .u8 (m : Int) ∧ m < 256 ∧ Hid (m = mixP f s.data.toList (4 * c + r) n) ∧ Hid (Since w wr)) (fun _ i _ => 4 - (intOf i).toNat)
          case atStart => exact ⟨0, 0, by omega, rfl, rfl, by omega, Lib.hid rfl, HS⟩
          case round =>
            clear HS
            obtain ⟨n, m, hn, rfl, rfl, hm, HM, HS⟩ := hrel
            by_cases hln : n < 4
            · obtain ⟨q, hq⟩ : ∃ q, q = (r + n) % 4 := ⟨_, rfl⟩
              have hq4 : q < 4 := by omega
              have e1 : ((r : Int) + (n : Int)) % 4 = (q : Int) := by omega
              have e2 : ((r : Int) + (n : Int)).tmod 4 = (q : Int) := by rw [Int.tmod_eq_emod_of_nonneg (by omega)]; exact e1
              have e3 : IntKind.i64.wrap ((r : Int) + (n : Int)) = (r : Int) + (n : Int) := IntWalk.i64_in _ (by omega)
              have e4 : IntKind.i64.wrap (4 * (c : Int)) = 4 * (c : Int) := IntWalk.i64_in _ (by omega)
              have e5 : IntKind.i64.wrap (4 * (c : Int) + (q : Int)) = 4 * (c : Int) + (q : Int) := IntWalk.i64_in _ (by omega)
              have e6 : (4 * (c : Int) + (q : Int)).toNat = 4 * c + q := by omega
              have hnb : n < B.size := by rw [Hb4.out]; exact hln
              have hqs : 4 * c + q < s.size := by rw [Hs.out]; omega
              have hbn := Hbj.out n hnb
              have hfn := Hf.out n hln
              have hsucc := mixP_succ f s.data.toList r c n q hlr hlc hq
              rw [← HM.out, ent_s s _ hqs] at hsucc
              have hx := s[4 * c + q].toNat_lt
              have hy := B[n].toNat_lt
              have c2 := RefField.mul_ret (B[n].toNat) (s[4 * c + q].toNat)
              have hz := Gf.mul_lt (B[n].toNat) (s[4 * c + q].toNat) hy
              rw [← hbn, Gf.mul_comm _ _ hx hy] at hsucc
              obtain ⟨z, hzz⟩ : ∃ z, z = Gf.mul (B[n].toNat) (s[4 * c + q].toNat) := ⟨_, rfl⟩
              rw [← hzz] at c2 hz hsucc
              have C2 : Ret 175 #[.int .u8 (B[n].toNat : Int), .int .u8 (s[4 * c + q].toNat : Int)] (.int .u8 (z : Int)) := fun w => c2 w (by omega) (by omega)
              have hbx := u8_xor_nat m z hm hz
              have hv := Nat.xor_lt_two_pow (n := 8) hm hz
              obtain ⟨v, hvv⟩ : ∃ v, v = m ^^^ z := ⟨_, rfl⟩
              rw [← hvv] at hsucc hbx hv
              have Hsucc := Lib.hid hsucc
              clear hsucc
              have i1 : (0 : Int) ≤ (n : Int) := by omega
              have i2 : (n : Int) < 4 := by omega
              have i3 : (0 : Int) ≤ 4 * (c : Int) + (q : Int) := by omega
              have i4 : 4 * (c : Int) + (q : Int) < 16 := by omega
              clear c2 hvv hzz hbn hfn hq
              go_wp2_with fail
              go_quiet ((go_at_call 175; exact Calls.quiet_of_same (Ret.still C2 _)))
              go_wp2_with fail
              go_roundw
              case rel => exact ⟨n + 1, v, by omega, by go_num, rfl, hv, Lib.hid Hsucc.out.symm, Lib.hid (Since.step HS.out ⟨rfl, rfl, rfl, Nat.le_refl _, fun _ _ => rfl⟩)⟩
              case measure => simp [intOf]; omega
            · obtain rfl : n = 4 := by omega
              have K1 := conv_any (m : Int) (bs [UInt8.ofNat m]) (one_num m)
              have hent : ent L (4 * c + r) = m := by
                rw [HL.out, mix_ent _ _ _ (by omega), HM.out]
              obtain ⟨Pc, hPc⟩ : ∃ Pc, bs [UInt8.ofNat m] = Pc := ⟨_, rfl⟩
              have hcat : O ++ Pc = bs (L.take (4 * c + r + 1)) := by
                apply ba_ext
                rw [app_list, ← hPc, HO.out, list_bs, list_bs, list_bs, take_snoc L _ (by have := HLl.out; omega), hent]
              have hx1 : Pc.size = 1 := by rw [← hPc]; rfl
              rw [hPc] at K1
              obtain ⟨O2, hO2⟩ : ∃ O2, O ++ Pc = O2 := ⟨_, rfl⟩
              rw [hO2] at hcat
              have hO2s : O2.size ≤ 16 := by rw [hcat, size_bs]; simp; omega
              have hsz : ¬ 9223372036854775807 < O.size + Pc.size := by omega
              have hrel2 := Lib.hid hcat
              clear hent hcat hPc
              go_wp2_with fail
              go_roundw
              case rel => exact ⟨r + 1, O2, by omega, by go_num, rfl, hO2s, hrel2, Lib.hid (Since.alloc HS.out _)⟩
              case measure => simp [intOf]; omega
        · obtain rfl : r = 4 := by omega
          go_wp2_with fail
          go_roundw
          case rel => exact ⟨c + 1, O, by omega, by go_num, rfl, hO, HO, HS⟩
          case measure => simp [intOf]; omega
    · obtain rfl : c = 4 := by omega
      have hO2 : O = X := by rw [HO.out, HX.out, List.take_of_length_le (by have := HLl.out; omega)]
      subst hO2
      go_wp2_with fail
      go_ret
      exact ⟨rfl, HS.out⟩

set_option maxRecDepth 100000 in
set_option maxHeartbeats 1000000 in
theorem shift_mak (s : ByteArray) (hs : s.size = 16) (X : ByteArray) (hX : X = bs (shiftL s.data.toList)) : Mak 127 #[.string s] (.string X) := by
  intro w
  have c1 := Ret.mak (mov_yes s hs 1 (by decide) X (by rw [hX, mov1]))
  have H0 := Lib.hid (Since.refl w)
  clear hX hs
  go_enter Tryz.func127, Tryz.ntmps127
  go_wp2_with fail
  refine c1.calls H0.out ?_
  intro w1 h1
  have H1 := Lib.hid h1
  clear h1
  go_wp2_with fail
  go_ret
  exact ⟨rfl, H1.out⟩
set_option maxRecDepth 100000 in
set_option maxHeartbeats 1000000 in
theorem shift_mak_no (s : ByteArray) (hs : s.size ≠ 16) (hm : s.size ≤ 140737488355328) : Mak 127 #[.string s] (.string ⟨#[]⟩) := by
  intro w
  have c1 := Ret.mak (mov_no s 1 hs hm)
  have H0 := Lib.hid (Since.refl w)
  clear hs
  go_enter Tryz.func127, Tryz.ntmps127
  go_wp2_with fail
  refine c1.calls H0.out ?_
  intro w1 h1
  have H1 := Lib.hid h1
  clear h1
  go_wp2_with fail
  go_ret
  exact ⟨rfl, H1.out⟩

theorem fac_mix : facS mixF ⟨#[2, 3, 1, 1]⟩ := ⟨rfl, fun j hj => by
  have h4 : j < 4 := hj
  match j, h4 with
  | 0, _ | 1, _ | 2, _ | 3, _ => rfl
  | n + 4, h => omega⟩
theorem fac_unmix : facS unmixF ⟨#[14, 11, 13, 9]⟩ := ⟨rfl, fun j hj => by
  have h4 : j < 4 := hj
  match j, h4 with
  | 0, _ | 1, _ | 2, _ | 3, _ => rfl
  | n + 4, h => omega⟩
theorem mixF_lt : ∀ j, j < 4 → mixF j < 256 := by decide
theorem unmixF_lt : ∀ j, j < 4 → unmixF j < 256 := by decide
set_option maxRecDepth 100000 in
set_option maxHeartbeats 1000000 in
theorem mix_mak (s : ByteArray) (hs : s.size = 16) (X : ByteArray) (hX : X = bs ((mixL mixF) s.data.toList)) : Mak 128 #[.string s] (.string X) := by
  intro w
  have c1 := mixed_yes s hs mixF mixF_lt ⟨#[2, 3, 1, 1]⟩ fac_mix X hX
  have H0 := Lib.hid (Since.refl w)
  clear hX hs
  go_enter Tryz.func128, Tryz.ntmps128
  go_wp2_with fail
  refine c1.calls H0.out ?_
  intro w1 h1
  have H1 := Lib.hid h1
  clear h1
  go_wp2_with fail
  go_ret
  exact ⟨rfl, H1.out⟩
set_option maxRecDepth 100000 in
set_option maxHeartbeats 1000000 in
theorem mix_mak_no (s : ByteArray) (hs : s.size ≠ 16) (hm : s.size ≤ 140737488355328) : Mak 128 #[.string s] (.string ⟨#[]⟩) := by
  intro w
  have c1 := Ret.mak (mixed_no s ⟨#[2, 3, 1, 1]⟩ hs hm)
  have H0 := Lib.hid (Since.refl w)
  clear hs
  go_enter Tryz.func128, Tryz.ntmps128
  go_wp2_with fail
  refine c1.calls H0.out ?_
  intro w1 h1
  have H1 := Lib.hid h1
  clear h1
  go_wp2_with fail
  go_ret
  exact ⟨rfl, H1.out⟩

set_option maxRecDepth 100000 in
set_option maxHeartbeats 1000000 in
theorem key_mak (s k : ByteArray) (hs : s.size = 16) (hk : k.size = 16) (X : ByteArray) (hX : X = bs (xorL s.data.toList k.data.toList)) : Mak 99 #[.string s, .string k] (.string X) := by
  intro w
  have c0 := fits_ret s true (by omega) (by rw [decide_eq_true hs])
  have c1 := fits_ret k true (by omega) (by rw [decide_eq_true hk])
  have c2 : Mak 70 #[.string s, .string k] (.string X) := fun w => by
    have h := RefOct.xor_any s k 16 w (by omega) (by omega) (by omega)
    rwa [xor_str, ← hX] at h
  have H0 := Lib.hid (Since.refl w)
  clear hs hk hX
  go_enter Tryz.func99, Tryz.ntmps99
  go_wp2_with fail
  refine (c0).calls ?_
  go_wp2_with fail
  refine (c1).calls ?_
  go_wp2_with fail
  refine c2.calls H0.out ?_
  intro w1 h1
  have H1 := Lib.hid h1
  clear h1
  go_wp2_with fail
  go_ret
  exact ⟨rfl, H1.out⟩
set_option maxRecDepth 100000 in
set_option maxHeartbeats 1000000 in
theorem key_no (s k : ByteArray) (h : s.size ≠ 16 ∨ k.size ≠ 16) (hm : s.size ≤ 140737488355328) (hm2 : k.size ≤ 140737488355328) : Ret 99 #[.string s, .string k] (.string ⟨#[]⟩) := by
  intro w
  by_cases h1 : s.size = 16
  · have c0 := fits_ret s true hm (by rw [decide_eq_true h1])
    have c1 := fits_ret k false hm2 (by rw [decide_eq_false (by omega)])
    clear h h1
    go_enter Tryz.func99, Tryz.ntmps99
    go_wp2_with fail
    refine (c0).calls ?_
    go_wp2_with fail
    refine (c1).calls ?_
    go_wp2_with fail
    go_ret
    exact ⟨rfl, rfl⟩
  · have c0 := fits_ret s false hm (by rw [decide_eq_false h1])
    clear h h1
    go_enter Tryz.func99, Tryz.ntmps99
    go_wp2_with fail
    refine (c0).calls ?_
    go_wp2_with fail
    go_ret
    exact ⟨rfl, rfl⟩
theorem subs_m (s : ByteArray) (hm : s.size ≤ 1000000) (X : ByteArray) (hX : X = bs (subL s.data.toList)) : Mak 124 #[.string s] (.string X) := by
  rw [hX, ← sub_str]; exact RefSbox.subs_mak s hm
set_option maxRecDepth 100000 in
set_option maxHeartbeats 1000000 in
theorem do_no (s k : ByteArray) (b : Bool) (h : s.size ≠ 16 ∨ k.size ≠ 16) (hm : s.size ≤ 140737488355328) (hm2 : k.size ≤ 140737488355328) : Ret 100 #[.string s, .string k, .bool b] (.string ⟨#[]⟩) := by
  intro w
  by_cases h1 : s.size = 16
  · have c0 := fits_ret s true hm (by rw [decide_eq_true h1])
    have c1 := fits_ret k false hm2 (by rw [decide_eq_false (by omega)])
    clear h h1
    go_enter Tryz.func100, Tryz.ntmps100
    go_wp2_with fail
    refine (c0).calls ?_
    go_wp2_with fail
    refine (c1).calls ?_
    go_wp2_with fail
    go_ret
    exact ⟨rfl, rfl⟩
  · have c0 := fits_ret s false hm (by rw [decide_eq_false h1])
    clear h h1
    go_enter Tryz.func100, Tryz.ntmps100
    go_wp2_with fail
    refine (c0).calls ?_
    go_wp2_with fail
    go_ret
    exact ⟨rfl, rfl⟩

set_option maxRecDepth 100000 in
set_option maxHeartbeats 1000000 in
theorem do_mak (s k : ByteArray) (hs : s.size = 16) (hk : k.size = 16) (last : Bool) (X : ByteArray) (hX : X = bs (doL last s.data.toList k.data.toList)) : Mak 100 #[.string s, .string k, .bool last] (.string X) := by
  intro w
  have H0 := Lib.hid (Since.refl w)
  have f1 := fits_ret s true (by omega) (by rw [decide_eq_true hs])
  have f2 := fits_ret k true (by omega) (by rw [decide_eq_true hk])
  obtain ⟨A, hA⟩ : ∃ A, A = bs (subL s.data.toList) := ⟨_, rfl⟩
  have c1 := subs_m s (by omega) A hA
  have hAs : A.size = 16 := by rw [hA, size_bs, subL_len]; exact hs
  have hAl : A.data.toList = subL s.data.toList := by rw [hA, list_bs]
  obtain ⟨B, hB⟩ : ∃ B, B = bs (shiftL A.data.toList) := ⟨_, rfl⟩
  have hBs : B.size = 16 := by rw [hB]; exact bs_len _ (shiftL_len _)
  have c2 := shift_mak A hAs B hB
  cases last with
  | true =>
    have c3 := key_mak B k hBs hk X (by rw [hX, hB, list_bs, hAl]; rfl)
    clear hBs hX hAl hs hk hA hAs hB
    go_enter Tryz.func100, Tryz.ntmps100
    go_wp2_with fail
    refine (f1).calls ?_
    go_wp2_with fail
    refine (f2).calls ?_
    go_wp2_with fail
    refine c1.calls H0.out ?_
    intro w1 h1
    have H1 := Lib.hid h1
    clear h1
    go_wp2_with fail
    refine c2.calls H1.out ?_
    intro w2 h2
    have H2 := Lib.hid h2
    clear h2
    go_wp2_with fail
    refine c3.calls H2.out ?_
    intro w3 h3
    have H3 := Lib.hid h3
    clear h3
    go_wp2_with fail
    go_ret
    exact ⟨rfl, H3.out⟩
  | false =>
    obtain ⟨C, hC⟩ : ∃ C, C = bs (mixL mixF B.data.toList) := ⟨_, rfl⟩
    have c4 := mix_mak B hBs C hC
    have c3 := key_mak C k (by rw [hC]; exact bs_len _ (mixL_len _ _)) hk X (by rw [hX, hC, list_bs, hB, list_bs, hAl]; rfl)
    clear hBs hX hAl hs hk hA hAs hB hC
    go_enter Tryz.func100, Tryz.ntmps100
    go_wp2_with fail
    refine (f1).calls ?_
    go_wp2_with fail
    refine (f2).calls ?_
    go_wp2_with fail
    refine c1.calls H0.out ?_
    intro w1 h1
    have H1 := Lib.hid h1
    clear h1
    go_wp2_with fail
    refine c2.calls H1.out ?_
    intro w2 h2
    have H2 := Lib.hid h2
    clear h2
    go_wp2_with fail
    refine c4.calls H2.out ?_
    intro w3 h3
    have H3 := Lib.hid h3
    clear h3
    go_wp2_with fail
    refine c3.calls H3.out ?_
    intro w4 h4
    have H4 := Lib.hid h4
    clear h4
    go_wp2_with fail
    go_ret
    exact ⟨rfl, H4.out⟩
end RefRnd
end Go.Proofs.YtgfdomdbjiflmaaGreatDoor
