/- Joined texts. -/
-- PACK: YtefoonegobcoaaaWrap2 YtefoonegobcoaaaWrap3 YtefoonegobcoaaaWrap4 YtefoonegobcoaaaRefWrap YtefoonegobcoaaaRefWrap2 YtefoonegobcoaaaWrapAwake YtefoonegobcoaaaWrapBoth YtefoonegobcoaaaPadM
import Derived.Test.YtefoonegobcoaaaPk34
import Derived.Test.YtefoonegobcoaaaPk20
import Derived.Test.YtefoonegobcoaaaPk31
import Derived.Test.YtefoonegobcoaaaPk15
import Derived.Test.YtefoonegobcoaaaPk33

/- Package wrap: a text wrapped, piece by piece. -/
namespace Go.Proofs.Ytefoonegobcoaaa
open Go.RowKit
namespace Wrap
open Rnd Aes

theorem rowF_mid (L m : List UInt8) (p j : Nat) (hp : p + m.length ≤ L.length) : putAt (Oct.rowF L) p m j = Oct.rowF (L.take p ++ m ++ L.drop (p + m.length)) j := by
  have h1 : (L.take p).length = p := by rw [List.length_take]; omega
  have h2 : (L.take p ++ m).length = p + m.length := by rw [List.length_append, h1]
  unfold putAt Oct.rowF
  have hlen : (L.take p ++ m ++ L.drop (p + m.length)).length = L.length := by rw [List.length_append, h2, List.length_drop]; omega
  rw [hlen]
  by_cases hj : p ≤ j ∧ j < p + m.length
  · rw [if_pos hj, if_pos (by omega)]
    simp only [List.getD]
    rw [List.getElem?_append_left (by omega), List.getElem?_append_right (by omega), h1]
  · rw [if_neg hj]
    by_cases hjl : j < L.length
    · rw [if_pos hjl, if_pos hjl]
      simp only [List.getD]
      by_cases h3 : j < p
      · rw [List.getElem?_append_left (by omega), List.getElem?_append_left (by omega), List.getElem?_take_of_lt h3]
      · rw [List.getElem?_append_right (by omega), h2, List.getElem?_drop, show p + m.length + (j - (p + m.length)) = j from by omega]
    · rw [if_neg hjl, if_neg hjl]
theorem cut_lo (B : ByteArray) (hB : B.size = 16) (X : ByteArray) (hX : X = hd8 B) : Ret 37 #[.string B, .int .i64 0, .int .i64 8] (.string X) := fun w => by
  have h := Oct.cut_yes B 0 8 w (by omega) (by decide) (by omega) (by decide)
  rw [List.drop_zero] at h
  rw [hX]; exact h
theorem cut_hi (B : ByteArray) (hB : B.size = 16) (X : ByteArray) (hX : X = bs (B.data.toList.drop 8)) : Ret 37 #[.string B, .int .i64 8, .int .i64 8] (.string X) := fun w => by
  have h := Oct.cut_yes B 8 8 w (by omega) (by decide) (by omega) (by decide)
  have hl : B.data.toList.length = 16 := hB
  rw [List.take_of_length_le (by rw [List.length_drop]; omega)] at h
  rw [hX]; exact h
set_option maxRecDepth 100000 in
set_option maxHeartbeats 2000000 in
theorem raw_yes (key iv s : ByteArray) (hk : keyOk key) (hi : iv.size = 8) (hs : fits (s.size : Int)) (X : ByteArray) (hX : X = rawK key iv s) : Mak 10 #[.string key, .string iv, .string s] (.tuple #[.string X, .int .i64 0]) := by
  intro w
  have H0 := Lib.hid (Since.refl w)
  have c1 := new_key key hk
  obtain ⟨n, hn⟩ : ∃ n, n = 6 * (s.size / 8) := ⟨_, rfl⟩
  have c2 := steps_yes _ hs (n : Int) (by rw [hn]; omega)
  have t1 : ((iv.size : Int) == 8) = true := by rw [beq_iff_eq]; omega
  have t2 : ((iv.size : Int) != 8) = false := by rw [bne_eq_false_iff_eq]; omega
  unfold fits at hs
  have t3 : ((n : Int) == 0) = false := by rw [beq_eq_false_iff_ne]; omega
  have hm : s.size ≤ 65536 := by omega
  have h16 : 16 ≤ s.size := by omega
  have H8 : Hid (s.size % 8 = 0) := Lib.hid (by omega)
  have HN := Lib.hid hn
  have HX : Hid (X = bs ((wst (encK key) iv s.data.toList n).1.data.toList ++ (wst (encK key) iv s.data.toList n).2)) := Lib.hid (by rw [hX, rawK, hn])
  have HI := Lib.hid hi
  have hn9 : n ≤ 100000 := by omega
  clear hk hs hX hi hn
  go_enter Try.func10, Try.ntmps10
  go_wp2_with fail
  refine c1 _ _ H0.out _ ?_
  intro c w1 hC _ h1
  have HC := Lib.hid hC
  have H1 := Lib.hid h1
  clear hC h1
  go_wp2_with fail
  obtain ⟨cap, w2, hcv, hcap, hcel, hb2⟩ := run_bytes_cel w1 s
  have HCV := Lib.hid hcv
  have HR0 := Lib.hid hcel
  have HS0 := Lib.hid hb2
  clear hcv hcel hb2
  refine (c2).calls ?_
  go_wp2_with ((with_reducible refine wpList_conv_at (some 33) 9 40 (.tmp 32) _ _ w2 ?_ HCV.out ?_) <;> try rfl)
  obtain ⟨g, hg⟩ : ∃ g, g = w1.heap.size := ⟨_, rfl⟩
  rw [← hg] at HR0 ⊢
  have HG : Hid (w1.heap.size ≤ g) := Lib.hid (by omega)
  clear hg HCV c1 c2
  go_loopw [1, 35] (fun v i wr => ∃ (k : Nat) (A : ByteArray) (ring : List UInt8), k ≤ n ∧ i = .int .i64 (k : Int) ∧ v = .string A ∧ Hid (ring.length = s.size) ∧ Hid (A = (wst (encK key) iv s.data.toList k).1) ∧ Hid (ring.drop (8 * k % s.size) ++ ring.take (8 * k % s.size) = (wst (encK key) iv s.data.toList k).2) ∧ Hid (Cel wr g s.size (Oct.rowF ring)) ∧ Hid (Since w1 wr)) (fun _ i _ => n - (intOf i).toNat)
  case atStart => exact ⟨0, iv, s.data.toList, by omega, rfl, rfl, Lib.hid rfl, Lib.hid rfl, Lib.hid (by rw [Nat.mul_zero, Nat.zero_mod, List.drop_zero, List.take_zero, List.append_nil]; rfl), HR0, HS0⟩
  case round =>
    clear HR0 HS0
    obtain ⟨k, A, ring, hk, rfl, rfl, HL, HA, HR, HCE, HS⟩ := hrel
    have hl := wst_len (encK key) (encK_size key) iv s.data.toList HI.out (by show 8 ≤ s.size; omega) k
    have hAs : A.size = 8 := by rw [HA.out]; exact hl.1
    by_cases hlt : k < n
    · have hd : decide ((k : Int) < (n : Int)) = true := decide_eq_true (by omega)
      obtain ⟨p, hp⟩ : ∃ p, p = 8 * k % s.size := ⟨_, rfl⟩
      have hpl : p < s.size := by rw [hp]; exact Nat.mod_lt _ (by omega)
      have hp8 : p % 8 = 0 := by
        rw [hp, Nat.mod_mod_of_dvd _ (Nat.dvd_of_mod_eq_zero H8.out)]; omega
      have hpp : p + 8 ≤ s.size := by have := H8.out; omega
      have e1 : (k : Int) * 8 % (s.size : Int) = (p : Int) := by
        rw [hp, Int.mul_comm, show (8 : Int) * (k : Int) = ((8 * k : Nat) : Int) from by simp]; simp
      have hq : 8 * (k + 1) % s.size = (p + 8) % s.size := by rw [hp, Nat.mod_add_mod, Nat.mul_add]
      obtain ⟨P, hP⟩ : ∃ P, P = bs ((ring.drop p).take 8) := ⟨_, rfl⟩
      have hcvP := conv_cel wr g s.size p 8 (cap - p) ring HCE.out HL.out hpp P hP
      have hPl : ((ring.drop p).take 8).length = 8 := by rw [List.length_take, List.length_drop, HL.out]; omega
      obtain ⟨J, hJ⟩ : ∃ J, J = bs (A.data.toList ++ P.data.toList) := ⟨_, rfl⟩
      have hJc : J = bs (Oct.cat [A, P]) := by rw [hJ, Oct.cat_two]
      have hAl : A.data.toList.length = 8 := hAs
      have hJs : J.size = 16 := by rw [hJ, size_bs, List.length_append, hP, list_bs, hPl]; omega
      have c8 := fun W => Oct.join_lit W [A, P] 2 rfl #[.string A, .string P] rfl J hJc (by omega) (by decide)
      obtain ⟨B, hB⟩ : ∃ B, B = encK key J := ⟨_, rfl⟩
      have hBs : B.size = 16 := by rw [hB]; exact encK_size key J
      have c9 := fun w' (h : Since w1 w') => cenc_yes c key J hJs B hB w' (HC.out.since h)
      obtain ⟨h8, hh8⟩ : ∃ h, h = hd8 B := ⟨_, rfl⟩
      obtain ⟨l8, hl8⟩ : ∃ h, h = bs (B.data.toList.drop 8) := ⟨_, rfl⟩
      have hl8s : l8.size = 8 := by
        have : B.data.toList.length = 16 := hBs
        rw [hl8, size_bs, List.length_drop]; omega
      have c3 := cut_lo B hBs h8 hh8
      have c4 := cut_hi B hBs l8 hl8
      obtain ⟨A', hA'⟩ : ∃ A', A' = Sched.xorS h8 (cnt (k + 1)) := ⟨_, rfl⟩
      have c5 := count_mak h8 k (by rw [hh8, hd8_size B hBs]; omega) (by omega) A' hA'
      obtain ⟨rn1, rn2⟩ := ring_next ring (wst (encK key) iv s.data.toList k).2 l8.data.toList p s.size HL.out hpp (by rw [hp]; exact HR.out) hl8s _ hq hp8 H8.out
      obtain ⟨ws1, ws2⟩ := wst_succ (encK key) iv s.data.toList k A _ HA.out rfl B (by rw [hB, hJ, hP, list_bs, ← rn1])
      have hst1 : A' = (wst (encK key) iv s.data.toList (k + 1)).1 := by rw [ws1, hA', hh8]
      have hst2 : (ring.take p ++ l8.data.toList ++ ring.drop (p + 8)).drop (8 * (k + 1) % s.size) ++ (ring.take p ++ l8.data.toList ++ ring.drop (p + 8)).take (8 * (k + 1) % s.size) = (wst (encK key) iv s.data.toList (k + 1)).2 := by
        rw [rn2, ws2, hl8, list_bs]
      have hlen2 : (ring.take p ++ l8.data.toList ++ ring.drop (p + 8)).length = s.size := by
        have : l8.data.toList.length = 8 := hl8s
        rw [List.length_append, List.length_append, List.length_take, List.length_drop, HL.out]; omega
      have i1 : (0 : Int) ≤ (p : Int) := by omega
      have i2 : (p : Int) + 8 ≤ (s.size : Int) := by omega
      have i3 : (p : Int) ≤ (s.size : Int) := by omega
      have i4 : (0 : Int) < (s.size : Int) := by omega
      have hne : ¬ cap = p := by omega
      have HC8 := Lib.hid c8
      have HF := Lib.hid (Since.refl wr)
      clear hp hp8 hq hP hPl hJ hJc hAl hJs c8 hB hBs hh8 hl8 hA' rn1 rn2 ws1 ws2 hl hAs hpl
      have H_c9 := Lib.hid c9
      clear c9
      have Hst1 := Lib.hid hst1
      clear hst1
      have Hst2 := Lib.hid hst2
      clear hst2
      have Hlen2 := Lib.hid hlen2
      clear hlen2
      have Hl8s := Lib.hid hl8s
      clear hl8s
      go_wp2_with fail
      refine (HC8.out wr).mono ?_
      rintro e w3 ⟨rfl, h3⟩
      have H3 := Lib.hid h3
      clear h3
      go_wp2_with fail
      refine (H_c9.out _ (Since.step HS.out H3.out)).mono ?_
      rintro e w4 ⟨rfl, h4⟩
      have H4 := Lib.hid (Since.step H3.out h4)
      clear h4
      go_wp2_with fail
      refine (c3).calls ?_
      go_wp2_with fail
      refine c5.calls H4.out ?_
      intro w5 h5
      have H5 := Lib.hid h5
      clear h5
      go_wp2_with fail
      refine c4.calls ?_
      have hS5 := Since.step HS.out H5.out
      obtain ⟨w6, hrun, hrow, hbel⟩ := run_copy_cel w5 l8 g p s.size 8 (cap - p) 3 _ (HCE.out.below H5.out) (by have := Hl8s.out; omega) (by have := Hl8s.out; omega)
      have HCE6 : Hid (Cel w6 g s.size (Oct.rowF (ring.take p ++ l8.data.toList ++ ring.drop (p + 8)))) := Lib.hid (hrow.congr fun j _ => by
        have h9 : l8.data.toList.length = 8 := Hl8s.out
        have h10 := rowF_mid ring l8.data.toList p j (by rw [h9, HL.out]; exact hpp)
        rw [h9] at h10
        exact h10)
      have HS6 : Hid (Since w1 w6) := Lib.hid (hbel _ _ hS5 HG.out)
      clear hrow hbel hS5
      have Hrun := Lib.hid hrun
      clear hrun
      go_wp2_with ((with_reducible refine Lib.wpList_copy_run (P := Try.prog) _ (o := ⟨some 66, _, _, _, _, _⟩) ?_ (.tmp 63) (.tmp 65) 40 9 ?_ _ _ ?_ ?_ Hrun.out ?_) <;> try rfl)
      go_roundw
      case rel => exact ⟨k + 1, A', _, by omega, by go_num, rfl, Hlen2, Hst1, Hst2, HCE6, HS6⟩
      case measure => simp [intOf]; omega
    · have hd : decide ((k : Int) < (n : Int)) = false := decide_eq_false (by omega)
      obtain rfl : k = n := by omega
      have h0 : 8 * k % s.size = 0 := by
        have h9 := HN.out
        have h10 := H8.out
        rw [show 8 * k = s.size * 6 from by omega, Nat.mul_mod_right]
      have hR := HR.out
      rw [h0, List.drop_zero, List.take_zero, List.append_nil] at hR
      obtain ⟨P, hP⟩ : ∃ P, P = bs ring := ⟨_, rfl⟩
      have hcvP := conv_cel wr g s.size 0 s.size cap ring HCE.out HL.out (by omega) P (by rw [hP, List.drop_zero, List.take_of_length_le (by rw [HL.out]; exact Nat.le_refl _)])
      have hXX : X = bs (Oct.cat [A, P]) := by rw [HX.out, ← HA.out, ← hR, Oct.cat_two, hP, list_bs]
      have hXs : X.size = 8 + s.size := by
        have h9 : A.data.toList.length = 8 := hAs
        rw [hXX, Oct.cat_two, size_bs, List.length_append, hP, list_bs, HL.out]; omega
      have c8 := fun W => Oct.join_lit W [A, P] 2 rfl #[.string A, .string P] rfl X hXX (by omega) (by decide)
      have HC8 := Lib.hid c8
      clear c8 hXX hXs hP hR h0 hl hAs
      go_wp2_with fail
      refine (HC8.out wr).mono ?_
      rintro e w3 ⟨rfl, h3⟩
      have H3 := Lib.hid (Since.step (Since.step H1.out HS.out) h3)
      clear h3
      go_wp2_with fail
      go_ret2
      exact ⟨rfl, H3.out⟩
end Wrap
end Go.Proofs.Ytefoonegobcoaaa

/- Package wrap: unwrapped, piece by piece. -/
namespace Go.Proofs.Ytefoonegobcoaaa
open Go.RowKit
namespace Wrap
open Rnd Aes

theorem unraw_nokey (key s : ByteArray) (hm : key.size ≤ 1000000) (hk : ¬ keyOk key) : Ret 12 #[.string key, .string s] (.tuple #[.string ⟨#[]⟩, .string ⟨#[]⟩, .int .i64 2]) := by
  intro w
  have c1 := new_no key hm hk
  clear hk
  go_enter Try.func12, Try.ntmps12
  go_wp2_with fail
  refine (c1).calls ?_
  go_wp2_with fail
  go_ret3
  exact ⟨rfl, rfl⟩
theorem unraw_nosize (key s : ByteArray) (hk : keyOk key) (hm : s.size ≤ 1000000) (hs : ¬ fits ((s.size : Int) - 8)) : Mak 12 #[.string key, .string s] (.tuple #[.string ⟨#[]⟩, .string ⟨#[]⟩, .int .i64 4]) := by
  intro w
  have H0 := Lib.hid (Since.refl w)
  have c1 := new_key key hk
  have c2 := steps_no _ hs
  clear hk hs
  go_enter Try.func12, Try.ntmps12
  go_wp2_with fail
  refine c1 _ _ H0.out _ ?_
  intro c w1 hC _ h1
  have H1 := Lib.hid h1
  clear hC h1
  go_wp2_with fail
  refine (c2).calls ?_
  go_wp2_with fail
  go_ret3
  exact ⟨rfl, H1.out⟩
def stepN (s : ByteArray) : Nat := 6 * ((s.size - 8) / 8)
def headS (s : ByteArray) : ByteArray := bs (s.data.toList.take 8)
def unrawK (key s : ByteArray) : ByteArray × List UInt8 := ust (decK key) (stepN s) (headS s) (s.data.toList.drop 8) (stepN s)
set_option maxRecDepth 100000 in
set_option maxHeartbeats 2000000 in
theorem unraw_yes (key s : ByteArray) (hk : keyOk key) (hs : fits ((s.size : Int) - 8)) (X Y : ByteArray) (hX : X = (unrawK key s).1) (hY : Y = bs (unrawK key s).2) : Mak 12 #[.string key, .string s] (.tuple #[.string X, .string Y, .int .i64 0]) := by
  intro w
  have H0 := Lib.hid (Since.refl w)
  have c1 := new_key key hk
  obtain ⟨n, hn⟩ : ∃ n, n = 6 * ((s.size - 8) / 8) := ⟨_, rfl⟩
  have c2 := steps_yes _ hs (n : Int) (by unfold fits at hs; rw [hn]; omega)
  unfold fits at hs
  have t3 : ((n : Int) == 0) = false := by rw [beq_eq_false_iff_ne]; omega
  obtain ⟨S, hS⟩ : ∃ S, S = s.extract 8 s.size := ⟨_, rfl⟩
  have hSl : S.data.toList = s.data.toList.drop 8 := by
    have : s.data.toList.length = s.size := rfl
    rw [hS, ext_list, List.take_of_length_le (by rw [List.length_drop]; omega)]
  have hSs : S.size = s.size - 8 := by
    have : s.data.toList.length = s.size := rfl
    show S.data.toList.length = _
    rw [hSl, List.length_drop]; omega
  obtain ⟨A0, hA0⟩ : ∃ A, A = headS s := ⟨_, rfl⟩
  have hA0s : A0.size = 8 := by
    have : s.data.toList.length = s.size := rfl
    rw [hA0, headS, size_bs, List.length_take]; omega
  have c3 : Ret 37 #[.string s, .int .i64 0, .int .i64 8] (.string A0) := fun w => by
    have h := Oct.cut_yes s 0 8 w (by omega) (by decide) (by omega) (by decide)
    rw [List.drop_zero] at h
    rw [hA0]; exact h
  have hm : S.size ≤ 65536 := by omega
  have h16 : 16 ≤ S.size := by omega
  have H8 : Hid (S.size % 8 = 0) := Lib.hid (by omega)
  have HN : Hid (n = 6 * (S.size / 8)) := Lib.hid (by rw [hSs]; exact hn)
  have hu : unrawK key s = ust (decK key) n A0 S.data.toList n := by
    rw [unrawK, stepN, ← hn, ← hSl, ← hA0]
  have HX : Hid (X = (ust (decK key) n A0 S.data.toList n).1) := Lib.hid (by rw [hX, hu])
  have HY : Hid (Y = bs (ust (decK key) n A0 S.data.toList n).2) := Lib.hid (by rw [hY, hu])
  have HI := Lib.hid hA0s
  have hn9 : n ≤ 100000 := by omega
  have i0 : (8 : Int) ≤ (s.size : Int) := by omega
  have i9 : (s.size : Int) ≤ 70000 := by omega
  have HSS := Lib.hid hS
  clear hk hs hX hY hu hSl hSs hA0 hA0s hn hS
  go_enter Try.func12, Try.ntmps12
  go_wp2_with fail
  refine c1 _ _ H0.out _ ?_
  intro c w1 hC _ h1
  have HC := Lib.hid hC
  have H1 := Lib.hid h1
  clear hC h1
  go_wp2_with fail
  obtain ⟨cap, w2, hcv, hcap, hcel, hb2⟩ := run_bytes_cel w1.drew S
  have HR0 : Hid (Cel w2 w1.heap.size S.size (Oct.rowF S.data.toList)) := Lib.hid hcel
  have HS0 := Lib.hid (Since.step (Since.drew (Since.refl w1)) hb2)
  have hS2 := HSS.out.symm
  clear hcel hb2
  refine (c2).calls ?_
  go_wp2_with fail
  go_region_law (first
    | (go_simp; go_at_call 37; refine c3.calls ?_))
  all_goals
    go_wp2_with fail
    obtain ⟨g, hg⟩ : ∃ g, g = w1.heap.size := ⟨_, rfl⟩
    rw [← hg] at HR0 ⊢
    have HG : Hid (w1.heap.size ≤ g) := Lib.hid (by omega)
    clear hg hcv c1 c2 c3 hS2
    go_loopw [10, 37] (fun v i wr => ∃ (k : Nat) (A : ByteArray) (ring : List UInt8), k ≤ n ∧ i = .int .i64 (k : Int) ∧ v = .string A ∧ Hid (ring.length = S.size) ∧ Hid (A = (ust (decK key) n A0 S.data.toList k).1) ∧ Hid (ring.drop (8 * (n - k) % S.size) ++ ring.take (8 * (n - k) % S.size) = (ust (decK key) n A0 S.data.toList k).2) ∧ Hid (Cel wr g S.size (Oct.rowF ring)) ∧ Hid (Since w1 wr)) (fun _ i _ => n - (intOf i).toNat)
    case atStart =>
      have h0 : 8 * n % S.size = 0 := by
        have h9 := HN.out
        have h10 := H8.out
        rw [show 8 * n = S.size * 6 from by omega, Nat.mul_mod_right]
      exact ⟨0, A0, S.data.toList, by omega, rfl, rfl, Lib.hid rfl, Lib.hid rfl, Lib.hid (by rw [Nat.sub_zero, h0, List.drop_zero, List.take_zero, List.append_nil]; rfl), HR0, HS0⟩
    case round =>
      clear HR0 HS0
      obtain ⟨k, A, ring, hk, rfl, rfl, HL, HA, HR, HCE, HS⟩ := hrel
      have hl := ust_len (decK key) (decK_size key) n A0 S.data.toList HI.out (by show 8 ≤ S.size; omega) k
      have hAs : A.size = 8 := by rw [HA.out]; exact hl.1
      by_cases hlt : k < n
      · have hd : decide ((k : Int) < (n : Int)) = true := decide_eq_true (by omega)
        obtain ⟨t, ht⟩ : ∃ t, t = n - 1 - k := ⟨_, rfl⟩
        have et : (n : Int) - 1 - (k : Int) = (t : Int) := by omega
        obtain ⟨q, hq⟩ : ∃ q, q = 8 * t % S.size := ⟨_, rfl⟩
        have hql : q < S.size := by rw [hq]; exact Nat.mod_lt _ (by omega)
        have hq8 : q % 8 = 0 := by
          rw [hq, Nat.mod_mod_of_dvd _ (Nat.dvd_of_mod_eq_zero H8.out)]; omega
        have hpp : q + 8 ≤ S.size := by have := H8.out; omega
        obtain ⟨p, hp⟩ : ∃ p, p = 8 * (n - k) % S.size := ⟨_, rfl⟩
        have hp8 : p % 8 = 0 := by
          rw [hp, Nat.mod_mod_of_dvd _ (Nat.dvd_of_mod_eq_zero H8.out)]; omega
        have hpq : p = (q + 8) % S.size := by rw [hp, hq, Nat.mod_add_mod, show n - k = t + 1 from by omega, Nat.mul_add]
        have e1 : (t : Int) * 8 % (S.size : Int) = (q : Int) := by
          rw [hq, Int.mul_comm, show (8 : Int) * (t : Int) = ((8 * t : Nat) : Int) from by simp]; simp
        have hqk : 8 * (n - (k + 1)) % S.size = q := by rw [hq, show n - (k + 1) = t from by omega]
        obtain ⟨P, hP⟩ : ∃ P, P = bs ((ring.drop q).take 8) := ⟨_, rfl⟩
        have hcvP := conv_cel wr.drew g S.size q 8 (cap - q) ring (HCE.out.below (Below.drew (Below.refl _ _))) HL.out hpp P hP
        have HCVP := Lib.hid (fun w' (h : Below wr.heap.size wr w') => conv_cel w' g S.size q 8 (cap - q) ring (HCE.out.below h) HL.out hpp P hP)
        have hPl : ((ring.drop q).take 8).length = 8 := by rw [List.length_take, List.length_drop, HL.out]; omega
        obtain ⟨A1, hA1⟩ : ∃ A', A' = Sched.xorS A (cnt (t + 1)) := ⟨_, rfl⟩
        have c5 := count_mak A t (by omega) (by omega) A1 hA1
        have hA1s : A1.data.toList.length = 8 := by
          show A1.size = 8
          rw [hA1, Sched.xorS_size, hAs, cnt_size]; rfl
        obtain ⟨J, hJ⟩ : ∃ J, J = bs (A1.data.toList ++ P.data.toList) := ⟨_, rfl⟩
        have hJc : J = bs (Oct.cat [A1, P]) := by rw [hJ, Oct.cat_two]
        have hJs : J.size = 16 := by rw [hJ, size_bs, List.length_append, hP, list_bs, hPl]; omega
        have c8 := fun W => Oct.join_lit W [A1, P] 2 rfl #[.string A1, .string P] rfl J hJc (by omega) (by decide)
        obtain ⟨B, hB⟩ : ∃ B, B = decK key J := ⟨_, rfl⟩
        have hBs : B.size = 16 := by rw [hB]; exact decK_size key J
        have c9 := fun w' (h : Since w1 w') => cdec_yes c key J hJs B hB w' (HC.out.since h)
        obtain ⟨h8, hh8⟩ : ∃ h, h = hd8 B := ⟨_, rfl⟩
        obtain ⟨l8, hl8⟩ : ∃ h, h = bs (B.data.toList.drop 8) := ⟨_, rfl⟩
        have hl8s : l8.size = 8 := by
          have : B.data.toList.length = 16 := hBs
          rw [hl8, size_bs, List.length_drop]; omega
        have c3 := cut_lo B hBs h8 hh8
        have c4 := cut_hi B hBs l8 hl8
        obtain ⟨rn1, rn2⟩ := ring_prev ring (ust (decK key) n A0 S.data.toList k).2 l8.data.toList p q S.size HL.out (by omega) (by rw [hp]; exact HR.out) hl8s hpp hpq hp8 H8.out
        obtain ⟨ws1, ws2⟩ := ust_succ (decK key) n A0 S.data.toList k A _ HA.out rfl B (by
          have hsl : S.data.toList.length = S.size := rfl
          rw [hB, hJ, hP, list_bs, hA1, hsl, rn1, show n - k = t + 1 from by omega])
        have hst1 : h8 = (ust (decK key) n A0 S.data.toList (k + 1)).1 := by rw [ws1, hh8]
        have hst2 : (ring.take q ++ l8.data.toList ++ ring.drop (q + 8)).drop (8 * (n - (k + 1)) % S.size) ++ (ring.take q ++ l8.data.toList ++ ring.drop (q + 8)).take (8 * (n - (k + 1)) % S.size) = (ust (decK key) n A0 S.data.toList (k + 1)).2 := by
          rw [hqk, rn2, ws2, hl8, list_bs]; rfl
        have hlen2 : (ring.take q ++ l8.data.toList ++ ring.drop (q + 8)).length = S.size := by
          have : l8.data.toList.length = 8 := hl8s
          rw [List.length_append, List.length_append, List.length_take, List.length_drop, HL.out]; omega
        have i1 : (0 : Int) ≤ (q : Int) := by omega
        have i2 : (q : Int) + 8 ≤ (S.size : Int) := by omega
        have i3 : (q : Int) ≤ (S.size : Int) := by omega
        have i4 : (0 : Int) < (S.size : Int) := by omega
        have hne : ¬ cap = q := by omega
        have HC8 := Lib.hid c8
        have HF := Lib.hid (Since.drew (Since.refl wr))
        clear hq hq8 hp hp8 hpq hqk hP hPl hJ hJc hA1s hJs c8 hB hBs hh8 hl8 hA1 rn1 rn2 ws1 ws2 hl hAs hql ht
        have H_c9 := Lib.hid c9
        clear c9
        have Hst1 := Lib.hid hst1
        clear hst1
        have Hst2 := Lib.hid hst2
        clear hst2
        have Hlen2 := Lib.hid hlen2
        clear hlen2
        have Hl8s := Lib.hid hl8s
        clear hl8s
        go_wp2_with fail
        go_region_law (first
          | (go_simp; go_at_call 36; refine (c5 _).mono ?_; rintro e w3 ⟨rfl, h3⟩; have H3 := Lib.hid (Since.step HF.out h3); have hcvQ := HCVP.out w3 H3.out; clear h3)
          | (go_simp; go_at_call 35; refine (HC8.out _).mono ?_; rintro e w4 ⟨rfl, h4⟩; have H4 := Lib.hid (Since.step H3.out h4); clear h4)
          | (go_simp; go_at_call 42; refine (H_c9.out _ (Since.step HS.out H4.out)).mono ?_; rintro e w5 ⟨rfl, h5⟩; have H5 := Lib.hid (Since.step H4.out h5); clear h5))
        all_goals
          go_wp2_with fail
          refine (c3).calls ?_
          go_wp2_with fail
          refine c4.calls ?_
          have hS5 := Since.step HS.out H5.out
          obtain ⟨w6, hrun, hrow, hbel⟩ := run_copy_cel w5 l8 g q S.size 8 (cap - q) 3 _ (HCE.out.below H5.out) (by have := Hl8s.out; omega) (by have := Hl8s.out; omega)
          have HCE6 : Hid (Cel w6 g S.size (Oct.rowF (ring.take q ++ l8.data.toList ++ ring.drop (q + 8)))) := Lib.hid (hrow.congr fun j _ => by
            have h9 : l8.data.toList.length = 8 := Hl8s.out
            have h10 := rowF_mid ring l8.data.toList q j (by rw [h9, HL.out]; exact hpp)
            rw [h9] at h10
            exact h10)
          have HS6 : Hid (Since w1 w6) := Lib.hid (hbel _ _ hS5 HG.out)
          clear hrow hbel hS5
          have Hrun := Lib.hid hrun
          clear hrun
          go_wp2_with ((with_reducible refine Lib.wpList_copy_run (P := Try.prog) _ (o := ⟨some 72, _, _, _, _, _⟩) ?_ (.tmp 69) (.tmp 71) 40 9 ?_ _ _ ?_ ?_ Hrun.out ?_) <;> try rfl)
          go_roundw
          case rel => exact ⟨k + 1, h8, _, by omega, by go_num, rfl, Hlen2, Hst1, Hst2, HCE6, HS6⟩
          case measure => simp [intOf]; omega
      · have hd : decide ((k : Int) < (n : Int)) = false := decide_eq_false (by omega)
        obtain rfl : k = n := by omega
        have hR := HR.out
        rw [Nat.sub_self, Nat.mul_zero, Nat.zero_mod, List.drop_zero, List.take_zero, List.append_nil] at hR
        have hcvP := conv_cel wr.drew g S.size 0 S.size cap ring (HCE.out.below (Below.drew (Below.refl _ _))) HL.out (by omega) Y (by rw [HY.out, hR, List.drop_zero, List.take_of_length_le (by rw [← hR, HL.out]; exact Nat.le_refl _)])
        have hAX : A = X := by rw [HA.out, HX.out]
        subst hAX
        clear hR hl hAs
        go_wp2_with fail
        go_region
        all_goals
          go_wp2_with fail
          go_ret3
          exact ⟨rfl, Since.step H1.out (Since.drew HS.out)⟩
end Wrap
end Go.Proofs.Ytefoonegobcoaaa

/- Package wrap: wrapped with the value that the standard fixes. -/
namespace Go.Proofs.Ytefoonegobcoaaa
open Go.RowKit
namespace Wrap
open Rnd Aes

theorem wrap_any (key s : ByteArray) (X : ByteArray) (e : Int) (c : Mak 10 #[.string key, .string val, .string s] (.tuple #[.string X, .int .i64 e])) : Mak 14 #[.string key, .string s] (.tuple #[.string X, .int .i64 e]) := by
  intro w
  have H0 := Lib.hid (Since.refl w)
  have c1 := value_ret
  obtain ⟨V, hV⟩ : ∃ V, V = val := ⟨_, rfl⟩
  rw [← hV] at c c1
  clear hV
  go_enter Try.func14, Try.ntmps14
  go_wp2_with fail
  refine (c1).calls ?_
  go_wp2_with fail
  refine c.calls H0.out ?_
  intro w1 h1
  have H1 := Lib.hid h1
  clear h1
  go_wp2_with fail
  go_ret2
  exact ⟨rfl, H1.out⟩
theorem unwrap_no (key s : ByteArray) (e : Int) (he : (e != 0) = true) (c : Mak 12 #[.string key, .string s] (.tuple #[.string ⟨#[]⟩, .string ⟨#[]⟩, .int .i64 e])) : Mak 16 #[.string key, .string s] (.tuple #[.string ⟨#[]⟩, .int .i64 e]) := by
  intro w
  have H0 := Lib.hid (Since.refl w)
  have he2 : (e == 0) = false := by rw [beq_eq_false_iff_ne]; exact bne_iff_ne.1 he
  go_enter Try.func16, Try.ntmps16
  go_wp2_with fail
  refine c.calls H0.out ?_
  intro w1 h1
  have H1 := Lib.hid h1
  clear h1
  go_wp2_with fail
  go_ret2
  exact ⟨rfl, H1.out⟩
theorem unwrap_sum (key s X Y : ByteArray) (hX : X ≠ val) (hXs : X.size ≤ 1000) (c : Mak 12 #[.string key, .string s] (.tuple #[.string X, .string Y, .int .i64 0])) : Mak 16 #[.string key, .string s] (.tuple #[.string ⟨#[]⟩, .int .i64 7]) := by
  intro w
  have H0 := Lib.hid (Since.refl w)
  have c1 := value_ret
  obtain ⟨n, c2⟩ := Scan.scan_m X val (by omega) (by decide) false (decide_eq_false hX).symm
  obtain ⟨V, hV⟩ : ∃ V, V = val := ⟨_, rfl⟩
  rw [← hV] at c1 c2
  clear hV hX
  go_enter Try.func16, Try.ntmps16
  go_wp2_with fail
  refine c.calls H0.out ?_
  intro w1 h1
  have H1 := Lib.hid h1
  clear h1
  go_wp2_with fail
  refine (c1).calls ?_
  go_wp2_with fail
  refine c2.calls H1.out ?_
  intro w2 h2
  have H2 := Lib.hid h2
  clear h2
  go_wp2_with fail
  go_ret2
  exact ⟨rfl, H2.out⟩
theorem unwrap_yes (key s Y : ByteArray) (c : Mak 12 #[.string key, .string s] (.tuple #[.string val, .string Y, .int .i64 0])) : Mak 16 #[.string key, .string s] (.tuple #[.string Y, .int .i64 0]) := by
  intro w
  have H0 := Lib.hid (Since.refl w)
  have c1 := value_ret
  obtain ⟨n, c2⟩ := Scan.scan_m val val (by decide) (by decide) true (by simp)
  obtain ⟨V, hV⟩ : ∃ V, V = val := ⟨_, rfl⟩
  rw [← hV] at c c1 c2
  clear hV
  go_enter Try.func16, Try.ntmps16
  go_wp2_with fail
  refine c.calls H0.out ?_
  intro w1 h1
  have H1 := Lib.hid h1
  clear h1
  go_wp2_with fail
  refine (c1).calls ?_
  go_wp2_with fail
  refine c2.calls H1.out ?_
  intro w2 h2
  have H2 := Lib.hid h2
  clear h2
  go_wp2_with fail
  go_ret2
  exact ⟨rfl, H2.out⟩
end Wrap
end Go.Proofs.Ytefoonegobcoaaa

/- The reference of wrap. -/
namespace Go.Proofs.Ytefoonegobcoaaa
open Go.RowKit
namespace RefWrap
open Rnd Aes Wrap

theorem value_ret : Ret 21 #[] (.string val) := by
  intro w
  go_enter Try.func21, Try.ntmps21
  go_wp2_with fail
  go_ret
  exact ⟨rfl, rfl⟩
theorem key_no (key : ByteArray) (_hm : key.size ≤ 1000000) (hk : ¬ keyOk key) : Ret 38 #[.string key] (.bool false) := by
  intro w
  unfold keyOk at hk
  have b1 : ((key.size : Int) == 16) = false := by rw [beq_eq_false_iff_ne]; omega
  have b2 : ((key.size : Int) == 24) = false := by rw [beq_eq_false_iff_ne]; omega
  have b3 : ((key.size : Int) == 32) = false := by rw [beq_eq_false_iff_ne]; omega
  clear hk
  go_enter Try.func38, Try.ntmps38
  go_wp2_with fail
  go_ret
  exact ⟨rfl, rfl⟩
theorem key_yes (key : ByteArray) (hk : keyOk key) : Ret 38 #[.string key] (.bool true) := by
  intro w
  unfold keyOk at hk
  rcases hk with hk | hk | hk
  all_goals
    have hki : (key.size : Int) = _ := congrArg (fun n : Nat => (n : Int)) hk
    clear hk
    go_enter Try.func38, Try.ntmps38
    go_wp2_with fail
    go_ret
    exact ⟨rfl, rfl⟩
theorem steps_no (n : Int) (h : ¬ fits n) : Ret 19 #[.int .i64 n] (.int .i64 0) := by
  intro w
  unfold fits at h
  by_cases h1 : n < 16
  · have t1 : decide (n < 16) = true := decide_eq_true h1
    clear h
    go_enter Try.func19, Try.ntmps19
    go_wp2_with fail
    go_ret
    exact ⟨rfl, rfl⟩
  · have t1 : decide (n < 16) = false := decide_eq_false h1
    by_cases h2 : 65536 < n
    · have t2 : decide ((65536 : Int) < n) = true := decide_eq_true h2
      clear h
      go_enter Try.func19, Try.ntmps19
      go_wp2_with fail
      go_ret
      exact ⟨rfl, rfl⟩
    · have t2 : decide ((65536 : Int) < n) = false := decide_eq_false h2
      have t3 : (n % 8 == 0) = false := by rw [beq_eq_false_iff_ne]; omega
      have t4 : (n % 8 != 0) = true := by rw [bne_iff_ne]; omega
      clear h
      go_enter Try.func19, Try.ntmps19
      go_wp2_with fail
      go_ret
      exact ⟨rfl, rfl⟩
theorem steps_yes (n : Int) (h : fits n) (x : Int) (hx : x = 6 * (n / 8)) : Ret 19 #[.int .i64 n] (.int .i64 x) := by
  intro w
  obtain ⟨h1, h2, h3⟩ := h
  have t1 : decide (n < 16) = false := decide_eq_false (by omega)
  have t2 : decide ((65536 : Int) < n) = false := decide_eq_false (by omega)
  have t3 : (n % 8 == 0) = true := by rw [beq_iff_eq]; exact h3
  have t4 : (n % 8 != 0) = false := by rw [bne_eq_false_iff_eq]; exact h3
  subst hx
  clear h3
  go_enter Try.func19, Try.ntmps19
  go_wp2_with fail
  go_ret
  exact ⟨rfl, rfl⟩
theorem raw_nokey (key iv s : ByteArray) (hm : key.size ≤ 1000000) (hk : ¬ keyOk key) : Ret 11 #[.string key, .string iv, .string s] (.tuple #[.string ⟨#[]⟩, .int .i64 2]) := by
  intro w
  have c1 := key_no key hm hk
  clear hk
  go_enter Try.func11, Try.ntmps11
  go_wp2_with fail
  refine (c1).calls ?_
  go_wp2_with fail
  go_ret2
  exact ⟨rfl, rfl⟩
theorem raw_noiv (key iv s : ByteArray) (hk : keyOk key) (hi : iv.size ≠ 8) : Ret 11 #[.string key, .string iv, .string s] (.tuple #[.string ⟨#[]⟩, .int .i64 1]) := by
  intro w
  have c1 := key_yes key hk
  have t1 : ((iv.size : Int) == 8) = false := by rw [beq_eq_false_iff_ne]; omega
  have t2 : ((iv.size : Int) != 8) = true := by rw [bne_iff_ne]; omega
  clear hk hi
  go_enter Try.func11, Try.ntmps11
  go_wp2_with fail
  refine (c1).calls ?_
  go_wp2_with fail
  go_ret2
  exact ⟨rfl, rfl⟩
theorem raw_nosize (key iv s : ByteArray) (hk : keyOk key) (hi : iv.size = 8) (hs : ¬ fits (s.size : Int)) : Ret 11 #[.string key, .string iv, .string s] (.tuple #[.string ⟨#[]⟩, .int .i64 4]) := by
  intro w
  have c1 := key_yes key hk
  have c2 := steps_no _ hs
  have t1 : ((iv.size : Int) == 8) = true := by rw [beq_iff_eq]; omega
  have t2 : ((iv.size : Int) != 8) = false := by rw [bne_eq_false_iff_eq]; omega
  clear hk hi hs
  go_enter Try.func11, Try.ntmps11
  go_wp2_with fail
  refine (c1).calls ?_
  go_wp2_with fail
  refine (c2).calls ?_
  go_wp2_with fail
  go_ret2
  exact ⟨rfl, rfl⟩
theorem put_cnt (t : Nat) (ht : t ≤ 1000000) (X : ByteArray) (hX : X = cnt t) : Mak 41 #[.int .u64 (t : Int), .int .i64 8] (.string X) := fun w => by
  have h := RefOct.put_mid (t : Int) 8 w (by omega) (by omega) (by decide) (by decide)
  rw [hX, cnt, RefOct.put_same _ 8 (by decide)]; exact h
set_option maxRecDepth 100000 in
set_option maxHeartbeats 1000000 in
theorem raw_yes (key iv s : ByteArray) (hk : keyOk key) (hi : iv.size = 8) (hs : fits (s.size : Int)) (X : ByteArray) (hX : X = rawK key iv s) : Mak 11 #[.string key, .string iv, .string s] (.tuple #[.string X, .int .i64 0]) := by
  intro w
  have H0 := Lib.hid (Since.refl w)
  have c1 := key_yes key hk
  obtain ⟨n, hn⟩ : ∃ n, n = 6 * (s.size / 8) := ⟨_, rfl⟩
  have c2 := steps_yes _ hs (n : Int) (by rw [hn]; omega)
  have t1 : ((iv.size : Int) == 8) = true := by rw [beq_iff_eq]; omega
  have t2 : ((iv.size : Int) != 8) = false := by rw [bne_eq_false_iff_eq]; omega
  unfold fits at hs
  have t3 : ((n : Int) == 0) = false := by rw [beq_eq_false_iff_ne]; omega
  have hm : s.size ≤ 65536 := by omega
  have h16 : 16 ≤ s.size := by omega
  have HX : Hid (X = bs ((wst (encK key) iv s.data.toList n).1.data.toList ++ (wst (encK key) iv s.data.toList n).2)) := Lib.hid (by rw [hX, rawK, hn])
  have HI := Lib.hid hi
  have HK := Lib.hid hk
  have hn9 : n ≤ 100000 := by omega
  clear hk hs hX hi hn
  go_enter Try.func11, Try.ntmps11
  go_wp2_with fail
  refine (c1).calls ?_
  go_wp2_with fail
  refine (c2).calls ?_
  go_wp2_with fail
  go_loopw [8, 9, 10] (fun v r i wr => ∃ (j : Nat) (A R : ByteArray), 1 ≤ j ∧ j ≤ n + 1 ∧ i = .int .i64 (j : Int) ∧ v = .string A ∧ r = .string R ∧ Hid (A = (wst (encK key) iv s.data.toList (j - 1)).1) ∧ Hid (R.data.toList = (wst (encK key) iv s.data.toList (j - 1)).2) ∧ Hid (Since w wr)) (fun _ _ i _ => n + 1 - (intOf i).toNat)
  case atStart => exact ⟨1, iv, s, by omega, by omega, rfl, rfl, rfl, Lib.hid rfl, Lib.hid rfl, H0⟩
  case round =>
    obtain ⟨j, A, R, hj1, hj2, rfl, rfl, rfl, HA, HR, HS⟩ := hrel
    have hl := wst_len (encK key) (encK_size key) iv s.data.toList HI.out (by show 8 ≤ s.size; omega) (j - 1)
    have hAs : A.size = 8 := by rw [HA.out]; exact hl.1
    have hRs : R.size = s.size := by show R.data.toList.length = _; rw [HR.out]; exact hl.2
    by_cases hlt : j ≤ n
    · have hd : decide ((j : Int) ≤ (n : Int)) = true := decide_eq_true (by omega)
      obtain ⟨k, hk⟩ : ∃ k, j = k + 1 := ⟨j - 1, by omega⟩
      have hAl : A.data.toList.length = 8 := hAs
      have hRl : R.data.toList.length = s.size := hRs
      obtain ⟨P, hP⟩ : ∃ P, P = R.extract 0 8 := ⟨_, rfl⟩
      have hPl : P.data.toList = R.data.toList.take 8 := by rw [hP, ext_list, List.drop_zero]
      have hPs : P.size = 8 := by show P.data.toList.length = 8; rw [hPl, List.length_take]; omega
      obtain ⟨J, hJ⟩ : ∃ J, J = A ++ P := ⟨_, rfl⟩
      have hJb : J = bs (A.data.toList ++ R.data.toList.take 8) := by
        apply ba_ext
        rw [hJ, app_list, hPl, list_bs]
      have hJs : J.size = 16 := by rw [hJb, size_bs, List.length_append, List.length_take]; omega
      obtain ⟨B, hB⟩ : ∃ B, B = encK key J := ⟨_, rfl⟩
      have hBs : B.size = 16 := by rw [hB]; exact encK_size key J
      have hBl : B.data.toList.length = 16 := hBs
      have c3 := RefAes.enc_yes key J HK.out hJs B hB
      obtain ⟨h8, hh8⟩ : ∃ h, h = B.extract 0 8 := ⟨_, rfl⟩
      have hh8b : h8 = hd8 B := by
        apply ba_ext
        rw [hh8, ext_list, List.drop_zero, hd8, list_bs]
      obtain ⟨l8, hl8⟩ : ∃ h, h = B.extract 8 B.size := ⟨_, rfl⟩
      have hl8b : l8.data.toList = B.data.toList.drop 8 := by rw [hl8, ext_list, List.take_of_length_le (by rw [List.length_drop]; omega)]
      obtain ⟨R1, hR1⟩ : ∃ h, h = R.extract 8 R.size := ⟨_, rfl⟩
      have hR1b : R1.data.toList = R.data.toList.drop 8 := by rw [hR1, ext_list, List.take_of_length_le (by rw [List.length_drop]; omega)]
      obtain ⟨C, hC⟩ : ∃ C, C = cnt j := ⟨_, rfl⟩
      have c4 := put_cnt j (by omega) C hC
      obtain ⟨A', hA'⟩ : ∃ A', A' = Sched.xorS h8 C := ⟨_, rfl⟩
      have c5 := RefSched.xor_m h8 C (by rw [hh8b, hd8_size B hBs]; omega) (by rw [hC, cnt_size]; omega) A' hA'
      have e1 : IntKind.u64.wrap (j : Int) = (j : Int) := IntWalk.u64_in _ (by omega)
      obtain ⟨ws1, ws2⟩ := wst_succ (encK key) iv s.data.toList (j - 1) A R.data.toList HA.out HR.out B (by rw [hB, hJb])
      have hst1 : A' = (wst (encK key) iv s.data.toList (j + 1 - 1)).1 := by
        rw [show j + 1 - 1 = (j - 1) + 1 from by omega, ws1, hA', hh8b, hC, show j - 1 + 1 = j from by omega]
      have hst2 : (R1 ++ l8).data.toList = (wst (encK key) iv s.data.toList (j + 1 - 1)).2 := by
        rw [show j + 1 - 1 = (j - 1) + 1 from by omega, ws2, app_list, hR1b, hl8b]
      have z1 : ¬ 9223372036854775807 < A.size + P.size := by omega
      have z2 : ¬ 9223372036854775807 < R1.size + l8.size := by
        have h1 : R1.size ≤ s.size := by show R1.data.toList.length ≤ _; rw [hR1b, List.length_drop]; omega
        have h2 : l8.size = 8 := by show l8.data.toList.length = 8; rw [hl8b, List.length_drop]; omega
        omega
      have i1 : (8 : Int) ≤ (R.size : Int) := by omega
      have i2 : (8 : Int) ≤ (B.size : Int) := by omega
      have f1 := hP.symm
      have f2 := hJ.symm
      have f3 := hh8.symm
      have f4 := hl8.symm
      have f5 := hR1.symm
      clear hk hAl hRl hP hPl hPs hJ hJb hJs hB hBs hBl hh8 hh8b hl8 hl8b hR1 hR1b hC hA' ws1 ws2 hl hAs hRs
      have Hst1 := Lib.hid hst1
      clear hst1
      have Hst2 := Lib.hid hst2
      clear hst2
      go_wp2_with fail
      refine (c2).calls ?_
      go_wp2_with fail
      refine c3.calls HS.out ?_
      intro w1 h1
      have H1 := Lib.hid h1
      clear h1
      go_wp2_with fail
      go_region_law (first
        | (go_simp; go_at_call 41; refine (c4 _).mono ?_; rintro e w3 ⟨rfl, h3⟩; have H3 := Lib.hid (Since.step (Since.drew H1.out) h3); clear h3)
        | (go_simp; go_at_call 40; refine (c5 _).mono ?_; rintro e w4 ⟨rfl, h4⟩; have H4 := Lib.hid (Since.step H3.out h4); clear h4))
      all_goals
        go_wp2_with fail
        go_region
        all_goals
          go_wp2_with fail
          go_roundw
          case rel => exact ⟨j + 1, A', _, by omega, by omega, by go_num, rfl, rfl, Hst1, Hst2, Lib.hid (Since.drew H4.out)⟩
          case measure => simp [intOf]; omega
    · have hd : decide ((j : Int) ≤ (n : Int)) = false := decide_eq_false (by omega)
      have hX2 : A ++ R = X := by
        apply ba_ext
        rw [app_list, HA.out, HR.out, HX.out, list_bs, show j - 1 = n from by omega]
      have z1 : ¬ 9223372036854775807 < A.size + R.size := by omega
      clear hl hAs hRs
      go_wp2_with fail
      refine (c2).calls ?_
      go_wp2_with fail
      go_ret2
      exact ⟨rfl, HS.out⟩
end RefWrap
end Go.Proofs.Ytefoonegobcoaaa

/- The reference of wrap: unwrapping. -/
namespace Go.Proofs.Ytefoonegobcoaaa
open Go.RowKit
namespace RefWrap
open Rnd Aes Wrap

theorem unraw_nokey (key s : ByteArray) (hm : key.size ≤ 1000000) (hk : ¬ keyOk key) : Ret 13 #[.string key, .string s] (.tuple #[.string ⟨#[]⟩, .string ⟨#[]⟩, .int .i64 2]) := by
  intro w
  have c1 := key_no key hm hk
  clear hk
  go_enter Try.func13, Try.ntmps13
  go_wp2_with fail
  refine (c1).calls ?_
  go_wp2_with fail
  go_ret3
  exact ⟨rfl, rfl⟩
theorem unraw_nosize (key s : ByteArray) (hk : keyOk key) (hm : s.size ≤ 1000000) (hs : ¬ fits ((s.size : Int) - 8)) : Ret 13 #[.string key, .string s] (.tuple #[.string ⟨#[]⟩, .string ⟨#[]⟩, .int .i64 4]) := by
  intro w
  have c1 := key_yes key hk
  have c2 := steps_no _ hs
  clear hk hs
  go_enter Try.func13, Try.ntmps13
  go_wp2_with fail
  refine (c1).calls ?_
  go_wp2_with fail
  refine (c2).calls ?_
  go_wp2_with fail
  go_ret3
  exact ⟨rfl, rfl⟩
set_option maxRecDepth 100000 in
set_option maxHeartbeats 1500000 in
theorem unraw_yes (key s : ByteArray) (hk : keyOk key) (hs : fits ((s.size : Int) - 8)) (X Y : ByteArray) (hX : X = (unrawK key s).1) (hY : Y = bs (unrawK key s).2) : Mak 13 #[.string key, .string s] (.tuple #[.string X, .string Y, .int .i64 0]) := by
  intro w
  have H0 := Lib.hid (Since.refl w)
  have c1 := key_yes key hk
  obtain ⟨n, hn⟩ : ∃ n, n = 6 * ((s.size - 8) / 8) := ⟨_, rfl⟩
  have c2 := steps_yes _ hs (n : Int) (by unfold fits at hs; rw [hn]; omega)
  unfold fits at hs
  have hsl : s.data.toList.length = s.size := rfl
  have t3 : ((n : Int) == 0) = false := by rw [beq_eq_false_iff_ne]; omega
  obtain ⟨S, hS⟩ : ∃ S, S = s.extract 8 s.size := ⟨_, rfl⟩
  have hSl : S.data.toList = s.data.toList.drop 8 := by rw [hS, ext_list, List.take_of_length_le (by rw [List.length_drop]; omega)]
  have hSs : S.size = s.size - 8 := by
    show S.data.toList.length = _
    rw [hSl, List.length_drop]; omega
  obtain ⟨A0, hA0⟩ : ∃ A, A = s.extract 0 8 := ⟨_, rfl⟩
  have hA0b : A0 = headS s := by
    apply ba_ext
    rw [hA0, ext_list, List.drop_zero, headS, list_bs]
  have hA0s : A0.size = 8 := by rw [hA0b, headS, size_bs, List.length_take]; omega
  have c4 := steps_yes (S.size : Int) (by unfold fits; omega) (n : Int) (by rw [hn, hSs]; omega)
  have hm : S.size ≤ 65536 := by omega
  have h16 : 16 ≤ S.size := by omega
  have hu : unrawK key s = ust (decK key) n A0 S.data.toList n := by
    rw [unrawK, stepN, ← hn, ← hSl, ← hA0b]
  have HX : Hid (X = (ust (decK key) n A0 S.data.toList n).1) := Lib.hid (by rw [hX, hu])
  have HY : Hid (Y = bs (ust (decK key) n A0 S.data.toList n).2) := Lib.hid (by rw [hY, hu])
  have HI := Lib.hid hA0s
  have HK := Lib.hid hk
  have hn9 : n ≤ 100000 := by omega
  have i0 : (8 : Int) ≤ (s.size : Int) := by omega
  have i9 : (s.size : Int) ≤ 70000 := by omega
  have f1 := hA0.symm
  have f2 := hS.symm
  clear hk hs hX hY hu hSl hSs hA0 hA0b hA0s hn hS hsl
  go_enter Try.func13, Try.ntmps13
  go_wp2_with fail
  refine (c1).calls ?_
  go_wp2_with fail
  refine (c2).calls ?_
  go_wp2_with fail
  go_region
  go_wp2_with fail
  refine (c4).calls ?_
  clear f1 f2
  go_wp2_with fail
  go_loopw [7, 8, 9] (fun v r i wr => ∃ (j : Nat) (A R : ByteArray), j ≤ n ∧ i = .int .i64 (j : Int) ∧ v = .string A ∧ r = .string R ∧ Hid (A = (ust (decK key) n A0 S.data.toList (n - j)).1) ∧ Hid (R.data.toList = (ust (decK key) n A0 S.data.toList (n - j)).2) ∧ Hid (Since w wr)) (fun _ _ i _ => (intOf i).toNat)
  case atStart => exact ⟨n, A0, S, by omega, rfl, rfl, rfl, Lib.hid (by rw [Nat.sub_self]; rfl), Lib.hid (by rw [Nat.sub_self]; rfl), Lib.hid (Since.drew H0.out)⟩
  case round =>
    obtain ⟨j, A, R, hj2, rfl, rfl, rfl, HA, HR, HS⟩ := hrel
    have hl := ust_len (decK key) (decK_size key) n A0 S.data.toList HI.out (by show 8 ≤ S.size; omega) (n - j)
    have hAs : A.size = 8 := by rw [HA.out]; exact hl.1
    have hRs : R.size = S.size := by show R.data.toList.length = _; rw [HR.out]; exact hl.2
    by_cases hlt : 0 < j
    · have hd : decide ((0 : Int) < (j : Int)) = true := decide_eq_true (by omega)
      have hRl : R.data.toList.length = S.size := hRs
      have hSl : S.data.toList.length = S.size := rfl
      obtain ⟨C, hC⟩ : ∃ C, C = cnt j := ⟨_, rfl⟩
      have c5 := put_cnt j (by omega) C hC
      obtain ⟨A1, hA1⟩ : ∃ A', A' = Sched.xorS A C := ⟨_, rfl⟩
      have c6 := RefSched.xor_m A C (by omega) (by rw [hC, cnt_size]; omega) A1 hA1
      have hA1s : A1.size = 8 := by rw [hA1, Sched.xorS_size, hAs, hC, cnt_size]; rfl
      have hA1l : A1.data.toList.length = 8 := hA1s
      have en : ((R.size : Int) - 8).toNat = R.size - 8 := by omega
      obtain ⟨P, hP⟩ : ∃ P, P = R.extract ((R.size : Int) - 8).toNat R.size := ⟨_, rfl⟩
      have hPl : P.data.toList = R.data.toList.drop (S.data.toList.length - 8) := by rw [hP, en, ext_list, List.take_of_length_le (by rw [List.length_drop]; omega), hSl, hRs]
      have hPs : P.size = 8 := by show P.data.toList.length = 8; rw [hPl, List.length_drop]; omega
      obtain ⟨J, hJ⟩ : ∃ J, J = A1 ++ P := ⟨_, rfl⟩
      have hJb : J = bs (A1.data.toList ++ R.data.toList.drop (S.data.toList.length - 8)) := by
        apply ba_ext
        rw [hJ, app_list, hPl, list_bs]
      have hJs : J.size = 16 := by rw [hJb, size_bs, List.length_append, List.length_drop]; omega
      obtain ⟨B, hB⟩ : ∃ B, B = decK key J := ⟨_, rfl⟩
      have hBs : B.size = 16 := by rw [hB]; exact decK_size key J
      have hBl : B.data.toList.length = 16 := hBs
      have c7 := RefAes.dec_yes key J HK.out hJs B hB
      obtain ⟨h8, hh8⟩ : ∃ h, h = B.extract 0 8 := ⟨_, rfl⟩
      have hh8b : h8 = hd8 B := by
        apply ba_ext
        rw [hh8, ext_list, List.drop_zero, hd8, list_bs]
      obtain ⟨l8, hl8⟩ : ∃ h, h = B.extract 8 B.size := ⟨_, rfl⟩
      have hl8b : l8.data.toList = B.data.toList.drop 8 := by rw [hl8, ext_list, List.take_of_length_le (by rw [List.length_drop]; omega)]
      obtain ⟨R1, hR1⟩ : ∃ h, h = R.extract 0 ((R.size : Int) - 8).toNat := ⟨_, rfl⟩
      have hR1b : R1.data.toList = R.data.toList.take (S.data.toList.length - 8) := by rw [hR1, en, ext_list, List.drop_zero, hSl, hRs, Nat.sub_zero]
      have e1 : IntKind.u64.wrap (j : Int) = (j : Int) := IntWalk.u64_in _ (by omega)
      obtain ⟨ws1, ws2⟩ := ust_succ (decK key) n A0 S.data.toList (n - j) A R.data.toList HA.out HR.out B (by rw [hB, hJb, hA1, hC, show n - (n - j) = j from by omega])
      have hst1 : h8 = (ust (decK key) n A0 S.data.toList (n - (j - 1))).1 := by
        rw [show n - (j - 1) = (n - j) + 1 from by omega, ws1, hh8b]
      have hst2 : (l8 ++ R1).data.toList = (ust (decK key) n A0 S.data.toList (n - (j - 1))).2 := by
        rw [show n - (j - 1) = (n - j) + 1 from by omega, ws2, app_list, hR1b, hl8b]
      have z1 : ¬ 9223372036854775807 < A1.size + P.size := by omega
      have z2 : ¬ 9223372036854775807 < l8.size + R1.size := by
        have h1 : R1.size ≤ S.size := by show R1.data.toList.length ≤ _; rw [hR1b, List.length_take]; omega
        have h2 : l8.size = 8 := by show l8.data.toList.length = 8; rw [hl8b, List.length_drop]; omega
        omega
      have i1 : (8 : Int) ≤ (R.size : Int) := by omega
      have i2 : (8 : Int) ≤ (B.size : Int) := by omega
      have i3 : (0 : Int) ≤ (R.size : Int) - 8 := by omega
      have i5 : (R.size : Int) - 8 ≤ (R.size : Int) := by omega
      have i4 : (R.size : Int) ≤ 70000 := by omega
      have ej : ((j - 1 : Nat) : Int) = (j : Int) - 1 := by omega
      have ew : IntKind.i64.wrap ((R.size : Int) - 8) = (R.size : Int) - 8 := IntWalk.i64_in _ (by omega)
      have f1 := hP.symm
      have f2 := hJ.symm
      have f3 := hh8.symm
      have f4 := hl8.symm
      have f5 := hR1.symm
      clear en hSl hRl hP hPl hPs hJ hJb hJs hB hBs hBl hh8 hh8b hl8 hl8b hR1 hR1b hC hA1 hA1s hA1l ws1 ws2 hl hAs hRs
      have Hst1 := Lib.hid hst1
      clear hst1
      have Hst2 := Lib.hid hst2
      clear hst2
      have H_ej := Lib.hid ej
      clear ej
      go_wp2_with fail
      go_region_law (first
        | (go_simp; go_at_call 41; refine (c5 _).mono ?_; rintro e w3 ⟨rfl, h3⟩; have H3 := Lib.hid (Since.step (Since.drew HS.out) h3); clear h3)
        | (go_simp; go_at_call 40; refine (c6 _).mono ?_; rintro e w4 ⟨rfl, h4⟩; have H4 := Lib.hid (Since.step H3.out h4); clear h4)
        | (go_simp; go_at_call 43; refine (c7 _).mono ?_; rintro e w5 ⟨rfl, h5⟩; have H5 := Lib.hid (Since.step H4.out h5); clear h5))
      all_goals
        go_wp2_with fail
        go_region
        all_goals
          go_wp2_with fail
          go_roundw
          case rel => exact ⟨j - 1, h8, _, by omega, by rw [H_ej.out], rfl, rfl, Hst1, Hst2, Lib.hid (Since.drew H5.out)⟩
          case measure => simp [intOf]; omega
    · have hd : decide ((0 : Int) < (j : Int)) = false := decide_eq_false (by omega)
      have hj0 : n - j = n := by omega
      have hAX : A = X := by rw [HA.out, HX.out, hj0]
      have hRY : R = Y := by
        apply ba_ext
        rw [HR.out, HY.out, list_bs, hj0]
      subst hAX hRY
      clear hl hAs hRs hj0
      go_wp2_with fail
      go_ret3
      exact ⟨rfl, HS.out⟩
theorem wrap_any (key s : ByteArray) (X : ByteArray) (e : Int) (c : Mak 11 #[.string key, .string val, .string s] (.tuple #[.string X, .int .i64 e])) : Mak 15 #[.string key, .string s] (.tuple #[.string X, .int .i64 e]) := by
  intro w
  have H0 := Lib.hid (Since.refl w)
  have c1 := RefWrap.value_ret
  obtain ⟨V, hV⟩ : ∃ V, V = val := ⟨_, rfl⟩
  rw [← hV] at c c1
  clear hV
  go_enter Try.func15, Try.ntmps15
  go_wp2_with fail
  refine (c1).calls ?_
  go_wp2_with fail
  refine c.calls H0.out ?_
  intro w1 h1
  have H1 := Lib.hid h1
  clear h1
  go_wp2_with fail
  go_ret2
  exact ⟨rfl, H1.out⟩
theorem unwrap_no (key s : ByteArray) (e : Int) (he : (e != 0) = true) (c : Mak 13 #[.string key, .string s] (.tuple #[.string ⟨#[]⟩, .string ⟨#[]⟩, .int .i64 e])) : Mak 17 #[.string key, .string s] (.tuple #[.string ⟨#[]⟩, .int .i64 e]) := by
  intro w
  have H0 := Lib.hid (Since.refl w)
  have he2 : (e == 0) = false := by rw [beq_eq_false_iff_ne]; exact bne_iff_ne.1 he
  go_enter Try.func17, Try.ntmps17
  go_wp2_with fail
  refine c.calls H0.out ?_
  intro w1 h1
  have H1 := Lib.hid h1
  clear h1
  go_wp2_with fail
  go_ret2
  exact ⟨rfl, H1.out⟩
theorem unwrap_sum (key s X Y : ByteArray) (hX : X ≠ val) (c : Mak 13 #[.string key, .string s] (.tuple #[.string X, .string Y, .int .i64 0])) : Mak 17 #[.string key, .string s] (.tuple #[.string ⟨#[]⟩, .int .i64 7]) := by
  intro w
  have H0 := Lib.hid (Since.refl w)
  have c1 := RefWrap.value_ret
  have q1 := str_ne_f hX
  have q2 := str_ne_t hX
  obtain ⟨V, hV⟩ : ∃ V, V = val := ⟨_, rfl⟩
  rw [← hV] at c1 q1 q2
  clear hV hX
  go_enter Try.func17, Try.ntmps17
  go_wp2_with fail
  refine c.calls H0.out ?_
  intro w1 h1
  have H1 := Lib.hid h1
  clear h1
  go_wp2_with fail
  refine (c1).calls ?_
  go_wp2_with fail
  go_ret2
  exact ⟨rfl, H1.out⟩
theorem unwrap_yes (key s Y : ByteArray) (c : Mak 13 #[.string key, .string s] (.tuple #[.string val, .string Y, .int .i64 0])) : Mak 17 #[.string key, .string s] (.tuple #[.string Y, .int .i64 0]) := by
  intro w
  have H0 := Lib.hid (Since.refl w)
  have c1 := RefWrap.value_ret
  obtain ⟨V, hV⟩ : ∃ V, V = val := ⟨_, rfl⟩
  rw [← hV] at c c1
  clear hV
  go_enter Try.func17, Try.ntmps17
  go_wp2_with fail
  refine c.calls H0.out ?_
  intro w1 h1
  have H1 := Lib.hid h1
  clear h1
  go_wp2_with fail
  refine (c1).calls ?_
  go_wp2_with fail
  go_ret2
  exact ⟨rfl, H1.out⟩
end RefWrap
end Go.Proofs.Ytefoonegobcoaaa

/- wrap: what is wrapped, unwrapped, is what it was, and the other way. What the law calls awake. -/
namespace Go.Proofs.Ytefoonegobcoaaa
open Go.RowKit
namespace Wrap
open Rnd Aes

def rfcC : ByteArray := ⟨#[31, 166, 139, 10, 129, 18, 180, 71, 174, 243, 75, 216, 251, 90, 123, 130, 157, 62, 134, 35, 113, 210, 207, 229]⟩
private theorem st_step (t : Nat) (a : ByteArray) (r : List UInt8) (b a2 : ByteArray) (r2 : List UInt8) (h : wst (encK fipsK) val fipsP.data.toList t = (a, r)) (hb : encK fipsK (bs (a.data.toList ++ r.take 8)) = b) (ha : Sched.xorS (hd8 b) (cnt (t + 1)) = a2) (hr : r.drop 8 ++ b.data.toList.drop 8 = r2) : wst (encK fipsK) val fipsP.data.toList (t + 1) = (a2, r2) := by
  have h1 := wst_succ (encK fipsK) val fipsP.data.toList t a r (by rw [h]) (by rw [h]) b hb.symm
  rw [← ha, ← hr, ← h1.1, ← h1.2]
theorem st0 : wst (encK fipsK) val fipsP.data.toList 0 = (⟨#[166, 166, 166, 166, 166, 166, 166, 166]⟩, [0, 17, 34, 51, 68, 85, 102, 119, 136, 153, 170, 187, 204, 221, 238, 255]) := rfl
theorem st1 : wst (encK fipsK) val fipsP.data.toList 1 = (⟨#[244, 116, 0, 82, 232, 42, 34, 80]⟩, [136, 153, 170, 187, 204, 221, 238, 255, 116, 206, 134, 251, 215, 184, 5, 231]) := st_step 0 _ _ ⟨#[244, 116, 0, 82, 232, 42, 34, 81, 116, 206, 134, 251, 215, 184, 5, 231]⟩ _ _ st0 (by apply ba_ext; decide +kernel) (by apply ba_ext; decide +kernel) (by decide +kernel)
theorem st2 : wst (encK fipsK) val fipsP.data.toList 2 = (⟨#[6, 186, 78, 189, 231, 118, 141, 9]⟩, [116, 206, 134, 251, 215, 184, 5, 231, 209, 50, 238, 56, 20, 126, 118, 248]) := st_step 1 _ _ ⟨#[6, 186, 78, 189, 231, 118, 141, 11, 209, 50, 238, 56, 20, 126, 118, 248]⟩ _ _ st1 (by apply ba_ext; decide +kernel) (by apply ba_ext; decide +kernel) (by decide +kernel)
theorem st3 : wst (encK fipsK) val fipsP.data.toList 3 = (⟨#[252, 150, 118, 39, 190, 147, 114, 11]⟩, [209, 50, 238, 56, 20, 126, 118, 248, 254, 110, 141, 103, 156, 93, 52, 96]) := st_step 2 _ _ ⟨#[252, 150, 118, 39, 190, 147, 114, 8, 254, 110, 141, 103, 156, 93, 52, 96]⟩ _ _ st2 (by apply ba_ext; decide +kernel) (by apply ba_ext; decide +kernel) (by decide +kernel)
theorem st4 : wst (encK fipsK) val fipsP.data.toList 4 = (⟨#[88, 150, 234, 144, 40, 238, 32, 63]⟩, [254, 110, 141, 103, 156, 93, 52, 96, 7, 178, 189, 151, 62, 54, 166, 252]) := st_step 3 _ _ ⟨#[88, 150, 234, 144, 40, 238, 32, 59, 7, 178, 189, 151, 62, 54, 166, 252]⟩ _ _ st3 (by apply ba_ext; decide +kernel) (by apply ba_ext; decide +kernel) (by decide +kernel)
theorem st5 : wst (encK fipsK) val fipsP.data.toList 5 = (⟨#[147, 174, 167, 27, 37, 141, 144, 198]⟩, [7, 178, 189, 151, 62, 54, 166, 252, 37, 245, 163, 173, 194, 25, 84, 1]) := st_step 4 _ _ ⟨#[147, 174, 167, 27, 37, 141, 144, 195, 37, 245, 163, 173, 194, 25, 84, 1]⟩ _ _ st4 (by apply ba_ext; decide +kernel) (by apply ba_ext; decide +kernel) (by decide +kernel)
theorem st6 : wst (encK fipsK) val fipsP.data.toList 6 = (⟨#[227, 238, 152, 99, 68, 216, 120, 241]⟩, [37, 245, 163, 173, 194, 25, 84, 1, 241, 72, 99, 187, 30, 156, 169, 10]) := st_step 5 _ _ ⟨#[227, 238, 152, 99, 68, 216, 120, 247, 241, 72, 99, 187, 30, 156, 169, 10]⟩ _ _ st5 (by apply ba_ext; decide +kernel) (by apply ba_ext; decide +kernel) (by decide +kernel)
theorem st7 : wst (encK fipsK) val fipsP.data.toList 7 = (⟨#[43, 252, 33, 178, 194, 14, 64, 1]⟩, [241, 72, 99, 187, 30, 156, 169, 10, 181, 86, 211, 94, 216, 206, 240, 82]) := st_step 6 _ _ ⟨#[43, 252, 33, 178, 194, 14, 64, 6, 181, 86, 211, 94, 216, 206, 240, 82]⟩ _ _ st6 (by apply ba_ext; decide +kernel) (by apply ba_ext; decide +kernel) (by decide +kernel)
theorem st8 : wst (encK fipsK) val fipsP.data.toList 8 = (⟨#[75, 232, 206, 153, 192, 164, 58, 117]⟩, [181, 86, 211, 94, 216, 206, 240, 82, 100, 186, 229, 129, 141, 5, 112, 187]) := st_step 7 _ _ ⟨#[75, 232, 206, 153, 192, 164, 58, 125, 100, 186, 229, 129, 141, 5, 112, 187]⟩ _ _ st7 (by apply ba_ext; decide +kernel) (by apply ba_ext; decide +kernel) (by decide +kernel)
theorem st9 : wst (encK fipsK) val fipsP.data.toList 9 = (⟨#[235, 225, 206, 145, 6, 112, 36, 250]⟩, [100, 186, 229, 129, 141, 5, 112, 187, 190, 17, 75, 52, 62, 176, 9, 129]) := st_step 8 _ _ ⟨#[235, 225, 206, 145, 6, 112, 36, 243, 190, 17, 75, 52, 62, 176, 9, 129]⟩ _ _ st8 (by apply ba_ext; decide +kernel) (by apply ba_ext; decide +kernel) (by decide +kernel)
theorem st10 : wst (encK fipsK) val fipsP.data.toList 10 = (⟨#[90, 156, 123, 31, 91, 28, 59, 76]⟩, [190, 17, 75, 52, 62, 176, 9, 129, 79, 211, 210, 183, 215, 79, 187, 66]) := st_step 9 _ _ ⟨#[90, 156, 123, 31, 91, 28, 59, 70, 79, 211, 210, 183, 215, 79, 187, 66]⟩ _ _ st9 (by apply ba_ext; decide +kernel) (by apply ba_ext; decide +kernel) (by decide +kernel)
theorem st11 : wst (encK fipsK) val fipsP.data.toList 11 = (⟨#[147, 183, 25, 103, 238, 212, 31, 247]⟩, [79, 211, 210, 183, 215, 79, 187, 66, 174, 243, 75, 216, 251, 90, 123, 130]) := st_step 10 _ _ ⟨#[147, 183, 25, 103, 238, 212, 31, 252, 174, 243, 75, 216, 251, 90, 123, 130]⟩ _ _ st10 (by apply ba_ext; decide +kernel) (by apply ba_ext; decide +kernel) (by decide +kernel)
theorem st12 : wst (encK fipsK) val fipsP.data.toList 12 = (⟨#[31, 166, 139, 10, 129, 18, 180, 71]⟩, [174, 243, 75, 216, 251, 90, 123, 130, 157, 62, 134, 35, 113, 210, 207, 229]) := st_step 11 _ _ ⟨#[31, 166, 139, 10, 129, 18, 180, 75, 157, 62, 134, 35, 113, 210, 207, 229]⟩ _ _ st11 (by apply ba_ext; decide +kernel) (by apply ba_ext; decide +kernel) (by decide +kernel)
theorem rfc : rfcC = rawK fipsK val fipsP := by
  have h : 6 * (fipsP.size / 8) = 12 := by decide
  unfold rawK
  rw [h, st12]
  apply ba_ext
  decide +kernel
set_option maxHeartbeats 1000000 in
theorem awake_mak : Mak 9 #[] (.bool true) := by
  intro w
  have H0 := Lib.hid (Since.refl w)
  have c1 := wrap_any fipsK fipsP rfcC 0 (raw_yes fipsK val fipsP (Or.inl rfl) rfl (by unfold fits; decide) rfcC rfc)
  have c2 := (steps_yes 16 (by unfold fits; decide) 12 (by decide)).mak
  unfold fipsK fipsP rfcC at c1
  go_enter Try.func9, Try.ntmps9
  go_wp2_with fail
  refine c1.calls H0.out ?_
  intro w1 h1
  have H1 := Lib.hid h1
  clear h1
  go_wp2_with fail
  refine c2.calls H1.out ?_
  intro w2 h2
  have H2 := Lib.hid h2
  clear h2
  go_wp2_with fail
  go_ret
  exact ⟨rfl, H2.out⟩

theorem rawK_parts (key iv s : ByteArray) (hi : iv.size = 8) (hs : fits (s.size : Int)) :
    (rawK key iv s).size = s.size + 8 ∧ headS (rawK key iv s) = (wst (encK key) iv s.data.toList (6 * (s.size / 8))).1 ∧ (rawK key iv s).data.toList.drop 8 = (wst (encK key) iv s.data.toList (6 * (s.size / 8))).2 := by
  unfold fits at hs
  have hl : s.data.toList.length = s.size := rfl
  have h := wst_len (encK key) (encK_size key) iv s.data.toList hi (by omega) (6 * (s.size / 8))
  obtain ⟨p, hp⟩ : ∃ p, p = wst (encK key) iv s.data.toList (6 * (s.size / 8)) := ⟨_, rfl⟩
  rw [← hp] at h
  have h1 : p.1.data.toList.length = 8 := h.1
  unfold headS rawK
  rw [← hp]
  refine ⟨?_, ?_, ?_⟩
  · rw [size_bs, List.length_append, h1, h.2, hl]; omega
  · apply ba_ext
    rw [list_bs, list_bs, ← h1, List.take_left]
  · rw [list_bs, ← h1, List.drop_left]
/-- what is wrapped, unwrapped -/
theorem unraw_raw (key iv s : ByteArray) (hi : iv.size = 8) (hs : fits (s.size : Int)) : unrawK key (rawK key iv s) = (iv, s.data.toList) := by
  obtain ⟨h1, h2, h3⟩ := rawK_parts key iv s hi hs
  unfold fits at hs
  have hl : s.data.toList.length = s.size := rfl
  unfold unrawK
  have hn : stepN (rawK key iv s) = 6 * (s.size / 8) := by unfold stepN; rw [h1]; congr 2
  rw [hn, h2, h3]
  have hb := ust_wst (encK key) (decK key) (encK_size key) (fun b hb => decK_encK key b hb) iv s.data.toList hi (by omega) (6 * (s.size / 8)) (6 * (s.size / 8)) (Nat.le_refl _)
  rw [Nat.sub_self] at hb
  exact hb
theorem unrawK_size (key c : ByteArray) (hs : fits ((c.size : Int) - 8)) : (unrawK key c).1.size = 8 ∧ (unrawK key c).2.length = c.size - 8 := by
  unfold fits at hs
  have hl : c.data.toList.length = c.size := rfl
  have h := ust_len (decK key) (decK_size key) (stepN c) (headS c) (c.data.toList.drop 8) (by unfold headS; rw [size_bs, List.length_take]; omega) (by rw [List.length_drop]; omega) (stepN c)
  rw [List.length_drop, hl] at h
  exact h
/-- what is unwrapped, wrapped again -/
theorem raw_unraw (key c : ByteArray) (hs : fits ((c.size : Int) - 8)) : rawK key (unrawK key c).1 (bs (unrawK key c).2) = c := by
  have h9 := unrawK_size key c hs
  unfold fits at hs
  have hl : c.data.toList.length = c.size := rfl
  unfold rawK
  have hn : 6 * ((bs (unrawK key c).2).size / 8) = stepN c := by unfold stepN; rw [size_bs, h9.2]
  rw [hn, list_bs]
  have hb := wst_ust (encK key) (decK key) (decK_size key) (fun b hb => encK_decK key b hb) (headS c) (c.data.toList.drop 8) (by unfold headS; rw [size_bs, List.length_take]; omega) (by rw [List.length_drop]; omega) (stepN c) (stepN c) (Nat.le_refl _)
  rw [Nat.sub_self] at hb
  have hb2 : wst (encK key) (unrawK key c).1 (unrawK key c).2 (stepN c) = (headS c, c.data.toList.drop 8) := hb
  rw [hb2]
  apply ba_ext
  unfold headS
  rw [list_bs, list_bs, List.take_append_drop]
end Wrap
end Go.Proofs.Ytefoonegobcoaaa

/- wrap: the program and the reference, side by side. -/
namespace Go.Proofs.Ytefoonegobcoaaa
open Go.RowKit
namespace Wrap
open Aes

theorem raw_both (key iv s : ByteArray) (hm : key.size ≤ 1000000) : ∃ A e, Mak 10 #[.string key, .string iv, .string s] (.tuple #[.string A, .int .i64 e]) ∧ Mak 11 #[.string key, .string iv, .string s] (.tuple #[.string A, .int .i64 e]) := by
  by_cases hk : keyOk key
  · by_cases hi : iv.size = 8
    · by_cases hs : fits (s.size : Int)
      · exact ⟨_, _, raw_yes key iv s hk hi hs _ rfl, RefWrap.raw_yes key iv s hk hi hs _ rfl⟩
      · exact ⟨_, _, raw_nosize key iv s hk hi hs, (RefWrap.raw_nosize key iv s hk hi hs).mak⟩
    · exact ⟨_, _, raw_noiv key iv s hk hi, (RefWrap.raw_noiv key iv s hk hi).mak⟩
  · exact ⟨_, _, (raw_nokey key iv s hm hk).mak, (RefWrap.raw_nokey key iv s hm hk).mak⟩
theorem unraw_both (key s : ByteArray) (hm : key.size ≤ 1000000) (hl : s.size ≤ 1000000) : ∃ X Y e, Mak 12 #[.string key, .string s] (.tuple #[.string X, .string Y, .int .i64 e]) ∧ Mak 13 #[.string key, .string s] (.tuple #[.string X, .string Y, .int .i64 e]) := by
  by_cases hk : keyOk key
  · by_cases hs : fits ((s.size : Int) - 8)
    · exact ⟨_, _, _, unraw_yes key s hk hs _ _ rfl rfl, RefWrap.unraw_yes key s hk hs _ _ rfl rfl⟩
    · exact ⟨_, _, _, unraw_nosize key s hk hl hs, (RefWrap.unraw_nosize key s hk hl hs).mak⟩
  · exact ⟨_, _, _, (unraw_nokey key s hm hk).mak, (RefWrap.unraw_nokey key s hm hk).mak⟩
theorem wrap_both (key s : ByteArray) (hm : key.size ≤ 1000000) : ∃ A e, Mak 14 #[.string key, .string s] (.tuple #[.string A, .int .i64 e]) ∧ Mak 15 #[.string key, .string s] (.tuple #[.string A, .int .i64 e]) := by
  obtain ⟨A, e, h1, h2⟩ := raw_both key val s hm
  exact ⟨A, e, wrap_any key s A e h1, RefWrap.wrap_any key s A e h2⟩
theorem unwrap_both (key s : ByteArray) (hm : key.size ≤ 1000000) (hl : s.size ≤ 1000000) : ∃ A e, Mak 16 #[.string key, .string s] (.tuple #[.string A, .int .i64 e]) ∧ Mak 17 #[.string key, .string s] (.tuple #[.string A, .int .i64 e]) := by
  by_cases hk : keyOk key
  · by_cases hs : fits ((s.size : Int) - 8)
    · by_cases hv : (unrawK key s).1 = val
      · exact ⟨_, _, unwrap_yes key s _ (unraw_yes key s hk hs _ _ hv.symm rfl), RefWrap.unwrap_yes key s _ (RefWrap.unraw_yes key s hk hs _ _ hv.symm rfl)⟩
      · have h8 := (unrawK_size key s hs).1
        exact ⟨_, _, unwrap_sum key s _ _ hv (by omega) (unraw_yes key s hk hs _ _ rfl rfl), RefWrap.unwrap_sum key s _ _ hv (RefWrap.unraw_yes key s hk hs _ _ rfl rfl)⟩
    · exact ⟨_, _, unwrap_no key s 4 rfl (unraw_nosize key s hk hl hs), RefWrap.unwrap_no key s 4 rfl (RefWrap.unraw_nosize key s hk hl hs).mak⟩
  · exact ⟨_, _, unwrap_no key s 2 rfl (unraw_nokey key s hm hk).mak, RefWrap.unwrap_no key s 2 rfl (RefWrap.unraw_nokey key s hm hk).mak⟩
theorem steps_both (n : Int) : ∃ x, Ret 18 #[.int .i64 n] (.int .i64 x) ∧ Ret 19 #[.int .i64 n] (.int .i64 x) := by
  by_cases h : fits n
  · exact ⟨_, steps_yes n h _ rfl, RefWrap.steps_yes n h _ rfl⟩
  · exact ⟨_, steps_no n h, RefWrap.steps_no n h⟩
end Wrap
end Go.Proofs.Ytefoonegobcoaaa

/- Package padwrap: plain mathematics. -/
namespace Go.Proofs.Ytefoonegobcoaaa
namespace Pad
open Wrap

theorem getD_el (l : List UInt8) (k : Nat) (h : k < l.length) : l.getD k 0 = l[k] := by simp [List.getD, h]
/-- the four bytes ahead -/
def mark : ByteArray := ⟨#[166, 89, 89, 166]⟩
/-- the value of n bytes -/
def valS (n : Nat) : ByteArray := bs (mark.data.toList ++ (strOfNums (Oct.putL (n : Int) 4)).data.toList)
theorem put4_size (n : Nat) : (strOfNums (Oct.putL (n : Int) 4)).size = 4 := by rw [strOfNums_size]; simp [Oct.putL]
theorem valS_size (n : Nat) : (valS n).size = 8 := by
  have h : (strOfNums (Oct.putL (n : Int) 4)).data.toList.length = 4 := put4_size n
  unfold valS
  rw [size_bs, List.length_append, h]; rfl
theorem valS_drop (n : Nat) : (valS n).data.toList.drop 4 = (strOfNums (Oct.putL (n : Int) 4)).data.toList := by
  unfold valS
  rw [list_bs]; rfl
theorem num4 (m : Nat) (h1 : m < 4294967296) : Oct.numN (strOfNums (Oct.putL (m : Int) 4)).data.toList = m := by
  have hb : ∀ k : Nat, (UInt8.ofNat ((m : Int) / 2 ^ (8 * k) % 256).toNat).toNat = m / 2 ^ (8 * k) % 256 := fun k => by
    have h2 : ((m : Int) / 2 ^ (8 * k) % 256) = ((m / 2 ^ (8 * k) % 256 : Nat) : Int) := by
      rw [Int.natCast_emod, Int.natCast_ediv, Int.natCast_pow]; rfl
    rw [h2, Int.toNat_natCast, UInt8.toNat_ofNat']
    omega
  have hl : (strOfNums (Oct.putL m 4)).data.toList = [4, 5, 6, 7].map fun i => UInt8.ofNat ((m : Int) / 2 ^ (8 * (7 - i)) % 256).toNat := rfl
  rw [hl]
  simp only [Oct.numN, List.map_cons, List.map_nil, List.foldl_cons, List.foldl_nil, hb]
  simp only [Nat.reduceSub, Nat.reduceMul, Nat.reducePow, Nat.div_one]
  omega
theorem valS_inj (a b : Nat) (ha : a < 4294967296) (hb : b < 4294967296) (h : valS a = valS b) : a = b := by
  have h2 := congrArg (fun v : ByteArray => Oct.numN (v.data.toList.drop 4)) h
  simp only [valS_drop] at h2
  rwa [num4 a ha, num4 b hb] at h2
/-- so many bytes, padded: m of n count -/
def says (v : ByteArray) (n : Int) (m : Nat) : Prop := 1 ≤ m ∧ m ≤ 65535 ∧ v = valS m ∧ n % 8 = 0 ∧ (m : Int) ≤ n ∧ n < (m : Int) + 8
theorem says_one (v : ByteArray) (n : Int) (a b : Nat) (ha : says v n a) (hb : says v n b) : a = b :=
  valS_inj a b (by have := ha.2.1; omega) (by have := hb.2.1; omega) (ha.2.2.1.symm.trans hb.2.2.1)
end Pad
end Go.Proofs.Ytefoonegobcoaaa
