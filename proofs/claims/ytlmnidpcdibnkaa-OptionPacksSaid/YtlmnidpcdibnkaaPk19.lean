/- Joined texts. -/
-- PACK: YtlmnidpcdibnkaaOptAwake YtlmnidpcdibnkaaOptBackM YtlmnidpcdibnkaaOptAw2 YtlmnidpcdibnkaaOptArg
import Derived.Test.YtlmnidpcdibnkaaPk18
import Derived.Laws.StructEq
import Derived.OpenShut

/- Package option: what the laws of layer 32 call beside. -/
namespace Go.Proofs.Ytlmnidpcdibnkaa
open Go.RowKit
namespace Opt
set_option maxRecDepth 100000 in
theorem same1_mak (i d : ByteArray) : Mak 51 #[.agg #[.string i, .string d], .agg #[.string i, .string d]] (.bool true) := by
  intro w
  have t1 := str_eq_t (rfl : i = i)
  have t2 := str_eq_t (rfl : d = d)
  go_enter Try.func51, Try.ntmps51
  go_wp2_with fail
  go_ret
  exact ⟨rfl, ((Since.refl w).alloc _).alloc _⟩
set_option maxRecDepth 100000 in
theorem equal_nil (w : World) (A B : Option Addr) (c e : Nat) : Calls Try.prog 50 #[.slice A 0 c, .slice B 0 e, .func (.func 51) #[] #[]] w fun x w' => x = .returned (.bool true) ∧ Since w w' := by
  go_enter Try.func50, Try.ntmps50
  go_wp2_with fail
  go_loopw [7, 8, 9, 17] (fun _ _ _ i wr => i = .int .i64 0 ∧ Hid (Since w wr)) (fun _ _ _ i _ => 0 - (intOf i).toNat)
  case atStart => exact ⟨rfl, Lib.hid (Since.refl w)⟩
  case round =>
    obtain ⟨rfl, HS⟩ := hrel
    go_wp2_with fail
    go_ret
    exact ⟨rfl, HS.out⟩
set_option maxRecDepth 100000 in
set_option maxHeartbeats 4000000 in
theorem equal_rd (l : List P2) (w : World) (x y : Value) (hx : OptsS w x l) (hy : OptsS w y l) : Calls Try.prog 50 #[x, y, .func (.func 51) #[] #[]] w fun e w' => e = .returned (.bool true) ∧ Since w w' := by
  by_cases h0 : l.length = 0
  · obtain ⟨A, c, rfl, _⟩ := hx.empty h0
    obtain ⟨B, e, rfl, _⟩ := hy.empty h0
    exact equal_nil w A B c e
  · have hle := SlR.le hx
    obtain ⟨b, o, c, rfl, h1, h2, h3, h4⟩ := hx.form (by omega)
    obtain ⟨b2, o2, c2, rfl, g1, g2, g3, g4⟩ := hy.form (by omega)
    obtain ⟨n, hn⟩ : ∃ n, n = l.length := ⟨_, rfl⟩
    rw [← hn] at h1 g1 h0 hle ⊢
    have HC := Lib.hid h4
    have HD := Lib.hid g4
    have HN := Lib.hid hn
    clear h4 g4 hx hy hn
    go_enter Try.func50, Try.ntmps50
    go_wp2_with fail
    go_loopw [7, 8, 9, 17] (fun _ _ _ i wr => ∃ k : Nat, k ≤ n ∧ i = .int .i64 (k : Int) ∧ Hid (Since w wr)) (fun _ _ _ i _ => n - (intOf i).toNat)
    case atStart => exact ⟨0, by omega, rfl, Lib.hid (Since.refl w)⟩
    case round =>
      obtain ⟨k, hk, rfl, HS⟩ := hrel
      by_cases hlt : k < n
      · obtain ⟨⟨i, d⟩, hp⟩ : ∃ p, l[k]? = some p := ⟨l[k]'(by rw [← HN.out]; exact hlt), List.getElem?_eq_getElem _⟩
        obtain ⟨m0, m1⟩ := HC.out k _ hp
        obtain ⟨n0, n1⟩ := HD.out k _ hp
        have hbz := Nat.lt_of_lt_of_le h3 HS.out.size
        have hbz2 := Nat.lt_of_lt_of_le g3 HS.out.size
        replace m0 := (Below.cell HS.out (p := ⟨b, o + k * 2, none⟩) h3).trans m0
        replace m1 := (Below.cell HS.out (p := ⟨b, o + k * 2 + 1, none⟩) h3).trans m1
        replace n0 := (Below.cell HS.out (p := ⟨b2, o2 + k * 2, none⟩) g3).trans n0
        replace n1 := (Below.cell HS.out (p := ⟨b2, o2 + k * 2 + 1, none⟩) g3).trans n1
        have i1 : (0 : Int) ≤ (k : Int) := by omega
        have i2 : (k : Int) < (n : Int) := by omega
        have c1 := same1_mak i d
        clear hp
        go_wp2_with fail
        refine c1.calls0 ?_
        intro w1 hw1
        replace HS := Lib.hid (((HS.out.alloc _).alloc _).step hw1)
        clear hw1
        go_wp2_with fail
        go_roundw
        case rel => exact ⟨k + 1, by omega, by go_num, HS⟩
        case measure => simp [intOf]; omega
      · obtain rfl : n = k := by omega
        go_wp2_with fail
        go_ret
        exact ⟨rfl, HS.out⟩
set_option maxRecDepth 100000 in
theorem same_rd (l : List P2) (w : World) (x y : Value) (hx : OptsS w x l) (hy : OptsS w y l) : Calls Try.prog 37 #[x, y] w fun e w' => e = .returned (.bool true) ∧ Since w w' := by
  have h := equal_rd l w x y hx hy
  have H := Lib.hid h
  clear h
  go_enter Try.func37, Try.ntmps37
  go_wp2_with fail
  refine H.out.mono ?_
  rintro e w1 ⟨rfl, hw1⟩
  have HS := Lib.hid hw1
  clear hw1
  go_wp2_with fail
  go_ret
  exact ⟨rfl, HS.out⟩
def smallB (l : List P2) : Bool := decide (l.length ≤ 20) && l.all fun p => decide (p.1.size ≤ 20) && decide (p.2.size ≤ 600)
set_option maxRecDepth 100000 in
theorem small_big (l : List P2) (h : 20 < l.length) : RdO 31 l (fun x => #[x]) (.bool false) := by
  intro w x hx
  have hle := SlR.le hx
  obtain ⟨A, c, rfl, _⟩ := hx.slice
  have t1 : decide ((20 : Int) < (l.length : Int)) = true := decide_eq_true (by omega)
  clear hx
  go_enter Try.func31, Try.ntmps31
  go_wp2_with fail
  go_ret
  exact ⟨rfl, Since.refl w⟩
set_option maxRecDepth 100000 in
theorem small_nil : RdO 31 [] (fun x => #[x]) (.bool true) := by
  intro w x hx
  obtain ⟨A, c, rfl, _⟩ := hx.empty rfl
  clear hx
  go_enter Try.func31, Try.ntmps31
  go_wp2_with fail
  go_loop [3] (fun i => i = .int .i64 0) (fun i => 0 - (intOf i).toNat)
  case atStart => rfl
  case round =>
    subst hrel
    go_wp2_with fail
    go_ret
    exact ⟨rfl, Since.refl w⟩
set_option maxRecDepth 100000 in
set_option maxHeartbeats 4000000 in
theorem small_rd (l : List P2) (q : Bool) (hq : q = smallB l) : RdO 31 l (fun x => #[x]) (.bool q) := by
  by_cases hbig : 20 < l.length
  · have : q = false := by rw [hq]; unfold smallB; rw [decide_eq_false (by omega)]; rfl
    subst this
    exact small_big l hbig
  by_cases h0 : l.length = 0
  · obtain rfl := List.length_eq_zero_iff.1 h0
    subst hq
    exact small_nil
  intro w x hx
  obtain ⟨b, o, c, rfl, h1, h2, h3, h4⟩ := hx.form (by omega)
  have hq2 : q = l.all fun p => decide (p.1.size ≤ 20) && decide (p.2.size ≤ 600) := by rw [hq]; unfold smallB; rw [decide_eq_true (by omega)]; rfl
  obtain ⟨n, hn⟩ : ∃ n, n = l.length := ⟨_, rfl⟩
  rw [← hn] at h1 h0 hbig ⊢
  have t1 : decide ((20 : Int) < (n : Int)) = false := decide_eq_false (by omega)
  have HC := Lib.hid h4
  have HN := Lib.hid hn
  have HQ := Lib.hid hq2
  clear h4 hx hn hq hq2
  go_enter Try.func31, Try.ntmps31
  go_wp2_with fail
  go_loop [3] (fun i => ∃ k : Nat, k ≤ n ∧ i = .int .i64 (k : Int) ∧ Hid ((l.take k).all (fun p => decide (p.1.size ≤ 20) && decide (p.2.size ≤ 600)) = true)) (fun i => n - (intOf i).toNat)
  case atStart => exact ⟨0, by omega, rfl, Lib.hid rfl⟩
  case round =>
    obtain ⟨k, hk, rfl, HA⟩ := hrel
    by_cases hlt : k < n
    · obtain ⟨⟨i, d⟩, hp⟩ : ∃ p, l[k]? = some p := ⟨l[k]'(by rw [← HN.out]; exact hlt), List.getElem?_eq_getElem _⟩
      obtain ⟨m0, m1⟩ := HC.out k _ hp
      have i1 : (0 : Int) ≤ (k : Int) := by omega
      have i2 : (k : Int) < (n : Int) := by omega
      have HA2 : Hid ((l.take (k + 1)).all (fun p => decide (p.1.size ≤ 20) && decide (p.2.size ≤ 600)) = (decide (i.size ≤ 20) && decide (d.size ≤ 600))) := Lib.hid (by rw [take_snoc l k _ hp, List.all_append, HA.out]; simp)
      have hmem := Lib.hid (List.mem_of_getElem? hp)
      clear hp
      by_cases hi : i.size ≤ 20
      · have t2 : decide ((20 : Int) < (i.size : Int)) = false := decide_eq_false (by omega)
        by_cases hd : d.size ≤ 600
        · have t3 : decide ((600 : Int) < (d.size : Int)) = false := decide_eq_false (by omega)
          have HA3 : Hid ((l.take (k + 1)).all (fun p => decide (p.1.size ≤ 20) && decide (p.2.size ≤ 600)) = true) := Lib.hid (by rw [HA2.out, decide_eq_true hi, decide_eq_true hd]; rfl)
          clear HA2
          go_wp2_with fail
          go_round
          case rel => exact ⟨k + 1, by omega, by go_num, HA3⟩
          case measure => simp [intOf]; omega
        · have t3 : decide ((600 : Int) < (d.size : Int)) = true := decide_eq_true (by omega)
          have hqf : q = false := by
            rw [HQ.out, List.all_eq_false]
            exact ⟨_, hmem.out, by simp; omega⟩
          subst hqf
          go_wp2_with fail
          go_ret
          exact ⟨rfl, Since.refl w⟩
      · have t2 : decide ((20 : Int) < (i.size : Int)) = true := decide_eq_true (by omega)
        have hqf : q = false := by
          rw [HQ.out, List.all_eq_false]
          exact ⟨_, hmem.out, by simp; omega⟩
        subst hqf
        go_wp2_with fail
        go_ret
        exact ⟨rfl, Since.refl w⟩
    · obtain rfl : n = k := by omega
      have hqt : q = true := by rw [HQ.out]; have h9 := HA.out; rw [HN.out, List.take_length] at h9; exact h9
      subst hqt
      go_wp2_with fail
      go_ret
      exact ⟨rfl, Since.refl w⟩
def PostT (w : World) (l : List P2) (x : Ending) (w' : World) : Prop := ∃ v, x = .returned v ∧ OptsS w' v l ∧ Below w.heap.size w w'
set_option maxRecDepth 100000 in
theorem theirs_nil (w : World) (A : Option Addr) (c : Nat) : Calls Try.prog 33 #[.slice A 0 c] w (PostT w []) := by
  go_enter Try.func33, Try.ntmps33
  go_wp2_with fail
  go_loopw [3, 5, 8] (fun s _ i wr => i = .int .i64 0 ∧ s = .slice none 0 0 ∧ Hid (Since w wr)) (fun _ _ i _ => 0 - (intOf i).toNat)
  case atStart => exact ⟨rfl, rfl, Lib.hid (Since.refl w)⟩
  case round =>
    obtain ⟨rfl, rfl, HS⟩ := hrel
    go_wp2_with fail
    go_ret
    exact ⟨_, rfl, OptsS.nil _, HS.out⟩
set_option maxRecDepth 100000 in
set_option maxHeartbeats 4000000 in
theorem theirs_rd (l : List P2) (hl : l.length ≤ 1000) (w : World) (x : Value) (hx : OptsS w x l) : Calls Try.prog 33 #[x] w (PostT w l) := by
  by_cases h0 : l.length = 0
  · obtain ⟨A, c, rfl, _⟩ := hx.empty h0
    obtain rfl := List.length_eq_zero_iff.1 h0
    exact theirs_nil w A c
  · obtain ⟨b, o, c, rfl, h1, h2, h3, h4⟩ := hx.form (by omega)
    obtain ⟨n, hn⟩ : ∃ n, n = l.length := ⟨_, rfl⟩
    rw [← hn] at h1 h0 hl ⊢
    have HC := Lib.hid h4
    have HN := Lib.hid hn
    clear h4 hx hn
    go_enter Try.func33, Try.ntmps33
    go_wp2_with fail
    go_loopw [3, 5, 8] (fun s _ i wr => ∃ k : Nat, k ≤ n ∧ i = .int .i64 (k : Int) ∧ Hid (OwnO w wr s k (l.take k)) ∧ Hid (Since w wr)) (fun _ _ i _ => n - (intOf i).toNat)
    case atStart => exact ⟨0, by omega, rfl, Lib.hid ⟨World.ownsRow_nil _ _ _ _, rfl⟩, Lib.hid (Since.refl w)⟩
    case round =>
      obtain ⟨k, hk, rfl, HO, HS⟩ := hrel
      by_cases hlt : k < n
      · obtain ⟨⟨i, d⟩, hp⟩ : ∃ p, l[k]? = some p := ⟨l[k]'(by rw [← HN.out]; exact hlt), List.getElem?_eq_getElem _⟩
        obtain ⟨m0, m1⟩ := HC.out k _ hp
        replace m0 := (Below.cell HS.out (p := ⟨b, o + k * 2, none⟩) h3).trans m0
        replace m1 := (Below.cell HS.out (p := ⟨b, o + k * 2 + 1, none⟩) h3).trans m1
        have i1 : (0 : Int) ≤ (k : Int) := by omega
        have i2 : (k : Int) < (n : Int) := by omega
        have HTK := Lib.hid (take_snoc l k _ hp)
        clear hp
        go_wp2_with (at_builtin; refine app_own_h elemO rfl _ _ (by rfl) w (wr.alloc (.cells #[.string i, .string d] 44)) (wr.heap.size + 1) (by simp) _ k _ (by rfl) (HO.out.alloc _).1 (HS.out.alloc _) #[.string i, .string d] 1 1 (by rfl) rfl (fun u hu => by simp at hu; rcases hu with rfl | rfl <;> rfl) (by unfold maxLen; omega) (by omega) ?_)
        intro v2 W2 ho2 hs2 hk2
        have HO2 := Lib.hid (own_o1 ho2 HO.out.2 HTK.out)
        have HS2 := Lib.hid hs2
        clear ho2 hs2 hk2
        go_wp2_with fail
        go_roundw
        case rel => exact ⟨k + 1, by omega, by go_num, HO2, HS2⟩
        case measure => simp [intOf]; omega
      · obtain rfl : n = k := by omega
        have ho := HO.out.read
        rw [HN.out, List.take_length] at ho
        have HO2 := Lib.hid ho
        clear ho
        go_wp2_with fail
        go_ret
        exact ⟨_, rfl, HO2.out, HS.out⟩
end Opt
end Go.Proofs.Ytlmnidpcdibnkaa

/- Package option: what is packed is unpacked: plain mathematics. -/
namespace Go.Proofs.Ytlmnidpcdibnkaa
open Go.RowKit
namespace Opt
theorem num_sign2 (a b : Nat) (ha : a < 16) (hb : b < 16) : numF [Dig.sign a, Dig.sign b] 0 = ((16 * a + b : Nat) : Int) := by
  have h1 := Dig.val_sign _ a ha rfl
  have h2 := Dig.val_sign _ b hb rfl
  show (if Dig.val (Dig.sign a).toNat < 0 then -1 else if Dig.val (Dig.sign b).toNat < 0 then -1 else 16 * (16 * 0 + Dig.val (Dig.sign a).toNat) + Dig.val (Dig.sign b).toNat) = _
  rw [h1, h2, if_neg (by omega), if_neg (by omega)]
  omega
theorem num_sign4 (a b c d : Nat) (ha : a < 16) (hb : b < 16) (hc : c < 16) (hd : d < 16) : numF [Dig.sign a, Dig.sign b, Dig.sign c, Dig.sign d] 0 = ((16 * (16 * (16 * a + b) + c) + d : Nat) : Int) := by
  have h1 := Dig.val_sign _ a ha rfl
  have h2 := Dig.val_sign _ b hb rfl
  have h3 := Dig.val_sign _ c hc rfl
  have h4 := Dig.val_sign _ d hd rfl
  show (if Dig.val (Dig.sign a).toNat < 0 then -1 else if Dig.val (Dig.sign b).toNat < 0 then -1 else if Dig.val (Dig.sign c).toNat < 0 then -1 else if Dig.val (Dig.sign d).toNat < 0 then -1 else 16 * (16 * (16 * (16 * 0 + Dig.val (Dig.sign a).toNat) + Dig.val (Dig.sign b).toNat) + Dig.val (Dig.sign c).toNat) + Dig.val (Dig.sign d).toNat) = _
  rw [h1, h2, h3, h4, if_neg (by omega), if_neg (by omega), if_neg (by omega), if_neg (by omega)]
  omega
theorem hexL1 (c : UInt8) : Dig.hexL [c] = [Dig.sign (c.toNat / 16), Dig.sign (c.toNat % 16)] := rfl
theorem hexL2 (c e : UInt8) : Dig.hexL [c, e] = [Dig.sign (c.toNat / 16), Dig.sign (c.toNat % 16), Dig.sign (e.toNat / 16), Dig.sign (e.toNat % 16)] := rfl
theorem num_hex1 (n : Nat) (h : n ≤ 255) : numF (hexN (n : Int) 1).data.toList 0 = (n : Int) := by
  have hl : RefOct.low (n : Int) 1 = [UInt8.ofNat n] := by
    show [UInt8.ofNat ((n : Int) / 2 ^ (8 * 0) % 256).toNat] = _
    congr 2; omega
  unfold hexN
  rw [list_bs, hl, hexL1, UInt8.toNat_ofNat', num_sign2 _ _ (by omega) (by omega)]
  omega
theorem num_hex2 (n : Nat) (h : n ≤ 65535) : numF (hexN (n : Int) 2).data.toList 0 = (n : Int) := by
  have hl : RefOct.low (n : Int) 2 = [UInt8.ofNat (n / 256), UInt8.ofNat (n % 256)] := by
    show [UInt8.ofNat ((n : Int) / 2 ^ (8 * 1) % 256).toNat, UInt8.ofNat ((n : Int) / 2 ^ (8 * 0) % 256).toNat] = _
    have e1 : ((n : Int) / 2 ^ (8 * 1) % 256).toNat = n / 256 := by omega
    have e2 : ((n : Int) / 2 ^ (8 * 0) % 256).toNat = n % 256 := by omega
    rw [e1, e2]
  unfold hexN
  rw [list_bs, hl, hexL2, UInt8.toNat_ofNat', UInt8.toNat_ofNat', num_sign4 _ _ _ _ (by omega) (by omega) (by omega) (by omega)]
  omega
theorem sz (s : ByteArray) : s.data.toList.length = s.size := rfl
theorem take_app {α : Type} (a b : List α) (n : Nat) (h : a.length = n) : (a ++ b).take n = a := by subst h; simp
theorem drop_app {α : Type} (a b : List α) (n : Nat) (h : a.length = n) : (a ++ b).drop n = b := by subst h; simp
theorem ext_mid (s a b c : ByteArray) (h : s = a ++ (b ++ c)) (p q : Nat) (hp : a.size = p) (hq : q = p + b.size) : s.extract p q = b := by
  subst h
  apply ba_ext
  rw [ext_list, app_list, app_list, drop_app _ _ _ hp, hq, Nat.add_sub_cancel_left, take_app _ _ _ (sz b)]
theorem empty_app (s : ByteArray) : (⟨#[]⟩ : ByteArray) ++ s = s := by apply ba_ext; rw [app_list]; rfl
theorem app_assoc (a b c : ByteArray) : a ++ b ++ c = a ++ (b ++ c) := by apply ba_ext; rw [app_list, app_list, app_list, app_list, List.append_assoc]
theorem ext_pre (s a b : ByteArray) (h : s = a ++ b) (q : Nat) (hq : a.size = q) : s.extract 0 q = a := by
  subst h
  apply ba_ext
  rw [ext_list, app_list, List.drop_zero, Nat.sub_zero, take_app _ _ _ (by rw [sz]; exact hq)]
theorem ext_suf (s a b : ByteArray) (h : s = a ++ b) (q : Nat) (hq : a.size = q) : s.extract q s.size = b := by
  subst h
  apply ba_ext
  rw [ext_list, app_list, drop_app _ _ _ (by rw [sz]; exact hq), List.take_of_length_le]
  rw [sz, ByteArray.size_append]; omega
theorem cut_mid (s a b c : ByteArray) (h : s = a ++ (b ++ c)) (p q : Nat) (hp : a.size = p) (hq : b.size = q) : (s.data.toList.drop p).take q = b.data.toList := by
  subst h
  rw [app_list, app_list, drop_app _ _ _ (by rw [sz]; exact hp), take_app _ _ _ (by rw [sz]; exact hq)]
theorem dec_fwd (i d rest s : ByteArray) (hm : may i d = true) (hs : s = enc i d ++ rest) : okD s = true ∧ decI s = i ∧ decD s = d ∧ decN s = ((enc i d).size : Int) := by
  obtain ⟨hi, hd9⟩ := may_sizes i d hm
  have hz := enc_size i d hm
  have fin : ∀ h : Nat, h ≤ (enc i d).size → hd s = (((enc i d).size : Int), h) → s.extract 0 2 = i → s.extract h (enc i d).size = d → okD s = true ∧ decI s = i ∧ decD s = d ∧ decN s = ((enc i d).size : Int) := by
    intro h hle e h1 h2
    have h3 := ext_pre s (enc i d) rest hs _ rfl
    have hk : okD s = true := by
      rw [okD_in s (enc i d).size h e hle (by rw [hs, ByteArray.size_append]; omega) i d _ h1 h2 h3, hm, decide_eq_true rfl]; rfl
    refine ⟨hk, ?_, ?_, ?_⟩
    · unfold decI; rw [if_pos hk, h1]
    · unfold decD; rw [if_pos hk, e]; exact h2
    · unfold decN; rw [if_pos hk, e]
  by_cases h : d.size ≤ 251
  · rw [if_pos h] at hz
    have he : s = i ++ (hexN ((d.size : Int) + 4) 1 ++ (d ++ rest)) := by
      rw [hs]; unfold enc; rw [if_pos h, app_assoc, app_assoc]
    have h1 : s.extract 0 2 = i := ext_pre s i _ he 2 hi
    have h2 : t2 s = (hexN ((d.size : Int) + 4) 1).data.toList := cut_mid s i _ _ he 2 2 hi (hexN_size _ 1)
    have hss : s.size = (enc i d).size + rest.size := by rw [hs, ByteArray.size_append]
    have h3 : v2 s = ((enc i d).size : Int) := by
      unfold v2
      rw [if_neg (by omega), h2]
      have := num_hex1 (d.size + 4) (by omega)
      rw [show (((d.size + 4 : Nat) : Int)) = (d.size : Int) + 4 by omega] at this
      rw [this, hz]; omega
    refine fin 4 (by omega) (by unfold hd; rw [if_neg (by rw [h3]; omega), h3]) h1 ?_
    refine ext_mid s (i ++ hexN ((d.size : Int) + 4) 1) d rest (by rw [he, app_assoc]) 4 _ (by rw [ByteArray.size_append, hexN_size]; omega) (by omega)
  · rw [if_neg h] at hz
    have he : s = i ++ (⟨#[48, 48, 48, 52]⟩ ++ (hexN ((d.size : Int) + 10) 2 ++ (d ++ rest))) := by
      rw [hs]; unfold enc; rw [if_neg h, app_assoc, app_assoc, app_assoc]
    have h1 : s.extract 0 2 = i := ext_pre s i _ he 2 hi
    have he2 : s = i ++ (⟨#[48, 48]⟩ ++ (⟨#[48, 52]⟩ ++ (hexN ((d.size : Int) + 10) 2 ++ (d ++ rest)))) := by
      rw [he, ← app_assoc ⟨#[48, 48]⟩]; rfl
    have h4 : (⟨#[48, 48, 48, 52]⟩ : ByteArray).size = 4 := rfl
    have he3 : s = (i ++ ⟨#[48, 48, 48, 52]⟩) ++ (hexN ((d.size : Int) + 10) 2 ++ (d ++ rest)) := by rw [he, app_assoc]
    have h2 : t2 s = [48, 48] := cut_mid s i ⟨#[48, 48]⟩ _ he2 2 2 hi rfl
    have h5 : t4 s = (hexN ((d.size : Int) + 10) 2).data.toList := cut_mid s _ _ _ he3 6 4 (by rw [ByteArray.size_append]; omega) (hexN_size _ 2)
    have hss : s.size = (enc i d).size + rest.size := by rw [hs, ByteArray.size_append]
    have hv2 : v2 s = 0 := by unfold v2; rw [if_neg (by omega), h2]; decide +kernel
    have h3 : v4 s = ((enc i d).size : Int) := by
      unfold v4
      rw [if_neg (by omega), h5]
      have := num_hex2 (d.size + 10) (by omega)
      rw [show (((d.size + 10 : Nat) : Int)) = (d.size : Int) + 10 by omega] at this
      rw [this, hz]; omega
    refine fin 10 (by omega) (by unfold hd; rw [if_pos hv2, h3]) h1 ?_
    refine ext_mid s (i ++ ⟨#[48, 48, 48, 52]⟩ ++ hexN ((d.size : Int) + 10) 2) d rest (by rw [he3, ← app_assoc]) 10 _ (by rw [ByteArray.size_append, ByteArray.size_append, hexN_size]; omega) (by omega)
theorem catP_app (a b : List P2) : catP (a ++ b) = catP a ++ catP b := by
  apply ba_ext
  unfold catP encs
  rw [app_list, list_bs, list_bs, list_bs, List.map_append]
  simp [Oct.cat]
theorem catP_cons (p : P2) (b : List P2) : catP (p :: b) = enc p.1 p.2 ++ catP b := by
  apply ba_ext
  unfold catP encs
  rw [app_list, list_bs, list_bs]
  simp [Oct.cat]
theorem decs_fwd (l : List P2) (hm : ∀ p ∈ l, may p.1 p.2 = true) (rest s : ByteArray) (hs : s = catP l ++ rest) : ∀ k, k ≤ l.length → decs s k = some (l.take k, (catP (l.take k)).size) := by
  intro k
  induction k with
  | zero => intro _; rfl
  | succ k ih =>
    intro hk
    obtain ⟨p, hp⟩ : ∃ p, l[k]? = some p := ⟨l[k]'(by omega), List.getElem?_eq_getElem _⟩
    have hsplit : s = catP (l.take k) ++ (enc p.1 p.2 ++ (catP (l.drop (k + 1)) ++ rest)) := by
      have e : l = l.take k ++ (p :: l.drop (k + 1)) := by
        obtain ⟨h1, h2⟩ := List.getElem?_eq_some_iff.1 hp
        rw [← h2, ← List.drop_eq_getElem_cons h1, List.take_append_drop]
      rw [hs]
      conv => lhs; rw [e]
      rw [catP_app, catP_cons, app_assoc, app_assoc]
    have hT := ext_suf s _ _ hsplit _ rfl
    obtain ⟨h1, h2, h3, h4⟩ := dec_fwd p.1 p.2 _ _ (hm p (List.mem_of_getElem? hp)) hT
    have e2 : catP [p] = enc p.1 p.2 := by
      rw [catP_cons]
      exact ba_ext (by rw [app_list]; exact List.append_nil _)
    rw [decs_step s k _ _ (ih (by omega)), if_pos h1, h2, h3, h4, take_snoc l k p hp, catP_app, e2, ByteArray.size_append, Int.toNat_natCast]
theorem padV_form (n : Int) (h : (padV n).size ≠ 0) : padV n = enc PB (zerosB (padM n)) := by
  unfold padV at h ⊢
  split
  · rename_i h2; rw [if_pos h2] at h; exact absurd rfl h
  · rfl
theorem size0 (s : ByteArray) (h : s.size = 0) : s = ⟨#[]⟩ := by apply ba_ext; exact List.length_eq_zero_iff.1 h
theorem trim_okN (l : List P2) (h : okN l l.length = true) : trimP l = l := by
  by_cases h0 : l.length = 0
  · obtain rfl := List.length_eq_zero_iff.1 h0; rfl
  · obtain ⟨m, hm⟩ : ∃ m, l.length = m + 1 := ⟨l.length - 1, by omega⟩
    obtain ⟨p, hp⟩ : ∃ p, l[m]? = some p := ⟨l[m]'(by omega), List.getElem?_eq_getElem _⟩
    rw [trim_at l m p hm hp, if_neg]
    rw [hm, okN_succ l m p hp, Bool.and_eq_true] at h
    have h2 := h.2
    unfold stepB at h2
    rw [Bool.and_eq_true, Bool.and_eq_true] at h2
    intro he
    have := h2.1.2
    rw [decide_eq_true he] at this
    cases this
theorem packX_size (l : List P2) (hk : packOk l = true) : (packX l).size = (catP l).size + (padP l).size := by unfold packX; rw [if_pos hk, ByteArray.size_append]
/-- what is packed is unpacked as it was, whatever stands behind it -/
theorem unp_fwd (l : List P2) (hk : packOk l = true) (rest s : ByteArray) (hs : s = packX l ++ rest) : unpOk s (packN l) = some (l, (packX l).size) := by
  have hk2 := hk
  unfold packOk at hk2
  rw [Bool.and_eq_true, Bool.and_eq_true] at hk2
  have hok := hk2.1.1
  have hmay : ∀ p ∈ l, may p.1 p.2 = true := fun p hp => okN_may l l.length hok p (by rw [List.take_length]; exact hp)
  have hX : packX l = catP l ++ padP l := by unfold packX; rw [if_pos hk]
  have hN := packN_ok l hk
  have hpre : s.extract 0 (packX l).size = packX l := ext_pre s _ _ hs _ rfl
  have key : decs s (cntP l) = some (if (padP l).size = 0 then l else l ++ [(PB, zerosB (padM ((catP l).size : Int)))], (packX l).size) := by
    by_cases h0 : (padP l).size = 0
    · have hc : cntP l = l.length := by unfold cntP; rw [if_pos h0]; rfl
      have hX2 : packX l = catP l := by rw [hX, size0 _ h0]; apply ba_ext; rw [app_list]; simp
      have := decs_fwd l hmay rest s (by rw [hs, hX2]) l.length (Nat.le_refl _)
      rw [List.take_length] at this
      rw [hc, this, if_pos h0, hX2]
    · have hc : cntP l = l.length + 1 := by unfold cntP; rw [if_neg h0]
      have hpf : padP l = enc PB (zerosB (padM ((catP l).size : Int))) := padV_form _ h0
      have hX2 : catP (l ++ [(PB, zerosB (padM ((catP l).size : Int)))]) = packX l := by
        rw [catP_snoc, hX, hpf]
      have := decs_fwd (l ++ [(PB, zerosB (padM ((catP l).size : Int)))]) (fun p hp => by
        rcases List.mem_append.1 hp with hp | hp
        · exact hmay p hp
        · obtain rfl : p = _ := by simpa using hp
          exact may_pad _ (padM_lt _)) rest s (by rw [hs, hX2]) (l.length + 1) (by simp)
      rw [List.take_of_length_le (by simp), hX2] at this
      rw [hc, this, if_neg h0]
  have htrim : trimP (if (padP l).size = 0 then l else l ++ [(PB, zerosB (padM ((catP l).size : Int)))]) = l := by
    split
    · exact trim_okN l hok
    · rw [trim_snoc, if_pos rfl]
  unfold unpOk
  rw [hN, Int.toNat_natCast, key]
  show (if packOk (trimP _) = true ∧ (cntP (trimP _) : Int) = (cntP l : Int) ∧ packX (trimP _) = s.extract 0 (packX l).size then some (trimP _, (packX l).size) else none) = _
  rw [htrim, if_pos ⟨hk, rfl, hpre.symm⟩]
end Opt
end Go.Proofs.Ytlmnidpcdibnkaa

/- Package option: what the laws of layer 32 call awake. -/
namespace Go.Proofs.Ytlmnidpcdibnkaa
open Go.RowKit
namespace Opt
theorem lit1 (w : World) (i d : ByteArray) (t : TypeId) : OptsS (w.alloc (.cells #[.string i, .string d] t)) (.slice (some ⟨w.heap.size, 0, none⟩) 1 1) [(i, d)] :=
  SlR.lit w 2 1 [.string i, .string d] rfl (by decide) #[.string i, .string d] rfl t
set_option maxRecDepth 100000 in
set_option maxHeartbeats 4000000 in
theorem awake_core (S S2 : ByteArray) (L : List P2) (hL : L.length = 1) (hS : (S.toList == [49, 48, 48, 54, 65, 66, 80, 66, 48, 65, 48, 48, 48, 48, 48, 48]) = true) (hSz : S.size ≤ 100) (hS2 : S ++ ⟨#[114, 101, 115, 116]⟩ = S2)
    (c1 : RdO 32 [(⟨#[49, 48]⟩, ⟨#[65, 66]⟩)] (fun x => #[x]) (.tuple #[.string S, .int .i64 2, .int .i64 0])) (c2 : MkO 35 #[.string S2, .int .i64 2] L 16 0) (c3 : Mak 29 #[.int .i64 16] (.string ⟨#[]⟩)) : Mak 24 #[] (.bool true) := by
  intro w
  have HS := Lib.hid (Since.refl w)
  have k1 : ¬ 9223372036854775807 < S.size + 4 := by omega
  have HL := Lib.hid hL
  clear hL hSz
  go_enter Try.func24, Try.ntmps24
  go_wp2_with fail
  refine c1.calls0 (lit1 w _ _ _) ?_
  intro w1 h1
  replace HS := Lib.hid ((HS.out.alloc _).step h1)
  clear h1
  go_wp2_with fail
  refine c2.calls0 ?_
  intro v w2 hv h2
  replace HS := Lib.hid (HS.out.step h2)
  obtain ⟨A, c, hv2, _⟩ := hv.slice
  rw [HL.out] at hv2
  subst hv2
  clear h2 hv
  go_wp2_with fail
  refine c3.calls0 ?_
  intro w3 h3
  replace HS := Lib.hid (HS.out.step h3)
  clear h3
  go_wp2_with fail
  go_ret
  exact ⟨rfl, HS.out⟩
theorem awake_mak : Mak 24 #[] (.bool true) := by
  have c1 := pack_any [(⟨#[49, 48]⟩, ⟨#[65, 66]⟩)] (by decide) (by decide)
  have e1 : packV [(⟨#[49, 48]⟩, ⟨#[65, 66]⟩)] = .tuple #[.string (packX [(⟨#[49, 48]⟩, ⟨#[65, 66]⟩)]), .int .i64 2, .int .i64 0] := by
    unfold packV
    rw [show packN [(⟨#[49, 48]⟩, ⟨#[65, 66]⟩)] = 2 by decide +kernel, show packE [(⟨#[49, 48]⟩, ⟨#[65, 66]⟩)] = 0 by decide +kernel]
  rw [e1] at c1
  have hk : packOk [(⟨#[49, 48]⟩, ⟨#[65, 66]⟩)] = true := by decide +kernel
  obtain ⟨S2, hS2⟩ : ∃ S2, S2 = packX [(⟨#[49, 48]⟩, ⟨#[65, 66]⟩)] ++ ⟨#[114, 101, 115, 116]⟩ := ⟨_, rfl⟩
  have hun := unp_fwd [(⟨#[49, 48]⟩, ⟨#[65, 66]⟩)] hk ⟨#[114, 101, 115, 116]⟩ S2 hS2
  rw [show packN [(⟨#[49, 48]⟩, ⟨#[65, 66]⟩)] = 2 by decide +kernel, show (packX [(⟨#[49, 48]⟩, ⟨#[65, 66]⟩)]).size = 16 by decide +kernel] at hun
  obtain ⟨u1, u2, u3⟩ := unp_yes _ _ _ _ hun
  have hz : (packX [(⟨#[49, 48]⟩, ⟨#[65, 66]⟩)]).size = 16 := by decide +kernel
  have c2 := unpack_any S2 (by rw [hS2, ByteArray.size_append, hz]; decide) 2 _ _ _ u1.symm u2.symm u3.symm
  exact awake_core _ S2 _ rfl (by decide +kernel) (by rw [hz]; decide) hS2.symm c1 c2 (padding_mak 16 (by decide) (by decide) _ (by decide +kernel))
end Opt
end Go.Proofs.Ytlmnidpcdibnkaa

/- Package option: options among the arguments of a law. -/
namespace Go.Proofs.Ytlmnidpcdibnkaa
open Go.RowKit Go.Deep
namespace Opt
set_option maxRecDepth 100000 in
theorem opt_cells {H : Type} {enc : TypeId × Value → H} {w : World} {sp : Nat → Bool} {held : Bool} {m : Nat} {cs : List Value} {z : DataW H × List MemPlace} (h : DataW.trod enc Try.prog w 0 sp held m 44 cs = some z) :
    ∃ p : P2, cs = oc p ∧ p.1.size ≤ maxLen ∧ p.2.size ≤ maxLen := by
  obtain ⟨y0, y1, n, _, hl, h0, h1⟩ := Go.ChangeShapes.trod_struct2 Try.underlying44 h
  have hC : Try.prog.cellsOf 44 = 2 := by kernel_rfl
  have hc : Try.prog.cellsOf 9 = 1 := by kernel_rfl
  rw [hC] at hl
  match cs, hl with
  | [u, v], _ =>
    rw [show ({ name := "ID", type := 9, offset := 0, embedded := false, tag := "", pkgPath := "", byteOffset := 0 } : Field).type = 9 from rfl, hc] at h0
    rw [show ({ name := "Data", type := 9, offset := 1, embedded := false, tag := "", pkgPath := "", byteOffset := 16 } : Field).type = 9 from rfl, hc] at h1
    obtain ⟨x, e0, _, w0⟩ := DataW.trod_string Try.underlying9 h0
    obtain ⟨y, e1, _, w1⟩ := DataW.trod_string Try.underlying9 h1
    simp at e0 e1
    subst e0 e1
    exact ⟨(x, y), rfl, w0, w1⟩
set_option maxRecDepth 100000 in
theorem opts_arg {H : Type} {enc : TypeId × Value → H} {w : World} {sp : Nat → Bool} {held : Bool} {fuel : Nat} {A : Option Addr} {n c : Nat} {d : DataW H} {ps : List MemPlace}
    (hf : DataW.trod enc Try.prog w 0 sp held fuel 56 (Value.slice A n c).cells.toList = some (d, ps)) (hlt : ∀ x ∈ ps, x.block < w.heap.size) :
    ∃ l : List P2, OptsS w (.slice A n c) l ∧ n = l.length ∧ ∀ p ∈ l, p.1.size ≤ maxLen ∧ p.2.size ≤ maxLen := by
  obtain ⟨l, h1, h2, h3⟩ := arg_elems (k := 2) oc (fun p => p.1.size ≤ maxLen ∧ p.2.size ≤ maxLen) Try.underlying56 (by kernel_rfl) (by decide) (fun _ => rfl)
    (fun m cs z hz _ _ => opt_cells hz) (by simpa [Value.cells] using hf) hlt
  refine ⟨l, ?_, h1, h3⟩
  subst h1
  exact h2
theorem smallB_spec (l : List P2) (h : smallB l = true) : l.length ≤ 20 ∧ ∀ p ∈ l, p.1.size ≤ 1000000 ∧ p.2.size ≤ 1000000 := by
  unfold smallB at h
  rw [Bool.and_eq_true, List.all_eq_true] at h
  refine ⟨of_decide_eq_true h.1, fun p hp => ?_⟩
  have h2 := h.2 p hp
  rw [Bool.and_eq_true] at h2
  have h3 := of_decide_eq_true h2.1
  have h4 := of_decide_eq_true h2.2
  omega
def CallsT (l : List P2) : Prop := ∀ w x, OptsS w x l → Calls Try.prog 33 #[x] w (PostT w l)
set_option maxRecDepth 100000 in
theorem CallsT.calls0 {l : List P2} (h : CallsT l) {w : World} {x : Value} (hx : OptsS w x l) {R : Ending → World → Prop} (k : ∀ v w', OptsS w' v l → Since w w' → R (.returned v) w') : Calls Try.prog 33 #[x] w R :=
  (h w x hx).mono fun _ _ ⟨v, he, ho, hb⟩ => by subst he; exact k v _ ho hb
def CallsE (l : List P2) : Prop := ∀ w x y, OptsS w x l → OptsS w y l → Calls Try.prog 37 #[x, y] w fun e w' => e = .returned (.bool true) ∧ Since w w'
set_option maxRecDepth 100000 in
theorem CallsE.calls0 {l : List P2} (h : CallsE l) {w : World} {x y : Value} (hx : OptsS w x l) (hy : OptsS w y l) {R : Ending → World → Prop} (k : ∀ w', Since w w' → R (.returned (.bool true)) w') : Calls Try.prog 37 #[x, y] w R :=
  (h w x y hx hy).mono fun _ _ ⟨he, hb⟩ => by subst he; exact k _ hb
theorem pad_mod (n : Int) (h : 0 ≤ n) : (n + (padV n).size) % 16 = 0 := by
  unfold padV
  split
  · rename_i h2
    have : ((⟨#[]⟩ : ByteArray).size : Int) = 0 := rfl
    rw [this]
    omega
  · have hm := may_pad (padM n) (padM_lt n)
    have h3 := padM_lt n
    rw [enc_size _ _ hm, zerosB_size, if_pos (by omega)]
    have : (padM n : Int) = (28 - n % 16) % 16 := by unfold padM; omega
    omega
theorem packX_mod (l : List P2) (hk : packOk l = true) : ((packX l).size : Int) % 16 = 0 := by
  rw [packX_size l hk]
  have := pad_mod ((catP l).size : Int) (by omega)
  unfold padP
  omega
theorem unp_some (s : ByteArray) (m : Int) (L : List P2) (A : Nat) (h : unpOk s m = some (L, A)) : packOk L = true ∧ (cntP L : Int) = m ∧ packX L = s.extract 0 A ∧ A ≤ s.size ∧ L.length ≤ 98 ∧ ∀ p ∈ L, p.1.size ≤ s.size ∧ p.2.size ≤ s.size := by
  unfold unpOk at h
  cases hd : decs s m.toNat with
  | none => rw [hd] at h; cases h
  | some q =>
    obtain ⟨L', A'⟩ := q
    rw [hd] at h
    have h2 : (if packOk (trimP L') = true ∧ (cntP (trimP L') : Int) = m ∧ packX (trimP L') = s.extract 0 A' then some (trimP L', A') else none) = some (L, A) := h
    split at h2
    · rename_i hc
      simp only [Option.some.injEq, Prod.mk.injEq] at h2
      obtain ⟨rfl, rfl⟩ := h2
      obtain ⟨h3, h4, h5⟩ := decs_len s _ _ _ hd
      have h6 := decs_sizes s _ _ _ hd
      refine ⟨hc.1, hc.2.1, hc.2.2, h4, ?_, fun p hp => h6 p ?_⟩
      · have hk := hc.1
        unfold packOk at hk
        rw [Bool.and_eq_true, Bool.and_eq_true] at hk
        have := of_decide_eq_true hk.1.2
        unfold cntP at this
        omega
      · unfold trimP at hp
        split at hp
        · rw [List.dropLast_eq_take] at hp; exact List.mem_of_mem_take hp
        · exact hp
    · cases h2
end Opt
end Go.Proofs.Ytlmnidpcdibnkaa
