/- Joined texts. -/
-- PACK: YtefoonegobcoaaaPad YtefoonegobcoaaaPad2 YtefoonegobcoaaaRefPad YtefoonegobcoaaaRefPad2 YtefoonegobcoaaaPadBoth
import Derived.Test.YtefoonegobcoaaaPk35
import Derived.Test.YtefoonegobcoaaaPk23
import Derived.Test.YtefoonegobcoaaaPk16

/- Package padwrap: Value, Length, Size. -/
namespace Go.Proofs.Ytefoonegobcoaaa
open Go.RowKit
namespace Pad
open Wrap

theorem value_no (n : Int) (h : n < 1 ∨ 65535 < n) : Ret 29 #[.int .i64 n] (.string ⟨#[]⟩) := by
  intro w
  by_cases h1 : n < 1
  · have t1 : decide (n < 1) = true := decide_eq_true h1
    clear h
    go_enter Try.func29, Try.ntmps29
    go_wp2_with fail
    go_ret
    exact ⟨rfl, rfl⟩
  · have t1 : decide (n < 1) = false := decide_eq_false h1
    have t2 : decide ((65535 : Int) < n) = true := decide_eq_true (by omega)
    clear h
    go_enter Try.func29, Try.ntmps29
    go_wp2_with fail
    go_ret
    exact ⟨rfl, rfl⟩
theorem value_yes (n : Nat) (h1 : 1 ≤ n) (h2 : n ≤ 65535) (V : ByteArray) (hV : V = valS n) : Mak 29 #[.int .i64 (n : Int)] (.string V) := by
  intro w
  have H0 := Lib.hid (Since.refl w)
  have t1 : decide ((n : Int) < 1) = false := decide_eq_false (by omega)
  have t2 : decide ((65535 : Int) < (n : Int)) = false := decide_eq_false (by omega)
  have e1 : IntKind.u64.wrap (n : Int) = (n : Int) := IntWalk.u64_in _ (by omega)
  obtain ⟨P, hP⟩ : ∃ P, P = strOfNums (Oct.putL (n : Int) 4) := ⟨_, rfl⟩
  have c1 : Mak 51 #[.int .u64 (n : Int), .int .i64 4] (.string P) := fun w => by
    rw [hP]
    exact Oct.put_mid (n : Int) 4 w (by omega) (by omega) (by decide) (by decide)
  have hVc : V = bs (Oct.cat [mark, P]) := by rw [hV, valS, hP, Oct.cat_two]
  have hVs : V.size = 8 := by rw [hV]; exact valS_size n
  have c8 := fun W => Oct.join_lit W [mark, P] 2 rfl #[.string mark, .string P] rfl V hVc (by omega) (by decide)
  unfold mark at c8
  have HC8 := Lib.hid c8
  clear c8 hVc hVs hP hV
  go_enter Try.func29, Try.ntmps29
  go_wp2_with fail
  refine c1.calls H0.out ?_
  intro w1 h1
  have H1 := Lib.hid h1
  clear h1
  go_wp2_with fail
  refine (HC8.out _).mono ?_
  rintro e w3 ⟨rfl, h3⟩
  have H3 := Lib.hid (Since.step H1.out h3)
  clear h3
  go_wp2_with fail
  go_ret
  exact ⟨rfl, H3.out⟩
theorem size_no (n : Int) (h : n < 1 ∨ 65535 < n) : Ret 31 #[.int .i64 n] (.int .i64 0) := by
  intro w
  by_cases h1 : n < 1
  · have t1 : decide (n < 1) = true := decide_eq_true h1
    clear h
    go_enter Try.func31, Try.ntmps31
    go_wp2_with fail
    go_ret
    exact ⟨rfl, rfl⟩
  · have t1 : decide (n < 1) = false := decide_eq_false h1
    have t2 : decide ((65535 : Int) < n) = true := decide_eq_true (by omega)
    clear h
    go_enter Try.func31, Try.ntmps31
    go_wp2_with fail
    go_ret
    exact ⟨rfl, rfl⟩
theorem size_yes (n : Nat) (h1 : 1 ≤ n) (h2 : n ≤ 65535) (x : Int) (hx : x = ((n : Int) + 7) / 8 * 8 + 8) : Ret 31 #[.int .i64 (n : Int)] (.int .i64 x) := by
  intro w
  have t1 : decide ((n : Int) < 1) = false := decide_eq_false (by omega)
  have t2 : decide ((65535 : Int) < (n : Int)) = false := decide_eq_false (by omega)
  have i1 : (0 : Int) ≤ (n : Int) := by omega
  have i2 : (n : Int) ≤ 65535 := by omega
  obtain rfl : x = ((n : Int) + 8 - 1) / 8 * 8 + 8 := by omega
  clear hx
  go_enter Try.func31, Try.ntmps31
  go_wp2_with fail
  go_ret
  exact ⟨rfl, rfl⟩
theorem cut4_no (v : ByteArray) (hm : v.size ≤ 1000000) (h : v.size ≤ 4) : Ret 37 #[.string v, .int .i64 4, .int .i64 8] (.string ⟨#[]⟩) := fun w => Oct.cut_no v 4 8 w (by omega) (by omega)
theorem cut4_yes (v : ByteArray) (hm : v.size ≤ 1000000) (h : 4 < v.size) (X : ByteArray) (hX : X = bs ((v.data.toList.drop 4).take 8)) : Ret 37 #[.string v, .int .i64 4, .int .i64 8] (.string X) := fun w => by
  rw [hX]; exact Oct.cut_yes v 4 8 w (by omega) (by omega) h (by omega)
theorem length_short (v : ByteArray) (n : Int) (hm : v.size ≤ 1000000) (h : v.size ≤ 4) : Ret 27 #[.string v, .int .i64 n] (.tuple #[.int .i64 0, .bool false]) := by
  intro w
  have c1 := cut4_no v hm h
  have c2 : Ret 50 #[.string ⟨#[]⟩] (.tuple #[.int .u64 0, .bool false]) := fun w => Oct.get_out ⟨#[]⟩ w (Or.inl (by decide)) (by decide)
  clear h hm
  go_enter Try.func27, Try.ntmps27
  go_wp2_with fail
  refine (c1).calls ?_
  go_wp2_with fail
  refine (c2).calls ?_
  go_wp2_with fail
  go_ret2
  exact ⟨rfl, rfl⟩
/-- the value is not that of the number that it states -/
theorem length_other (v : ByteArray) (n : Int) (C : ByteArray) (u : Int) (V : ByteArray) (c1 : Ret 37 #[.string v, .int .i64 4, .int .i64 8] (.string C)) (c2 : Ret 50 #[.string C] (.tuple #[.int .u64 u, .bool true]))
    (c3 : Mak 29 #[.int .i64 (IntKind.i64.wrap u)] (.string V)) (k : Int) (c4 : Mak 44 #[.string v, .string V] (.tuple #[.bool false, .int .i64 k])) :
    Mak 27 #[.string v, .int .i64 n] (.tuple #[.int .i64 0, .bool false]) := by
  intro w
  have H0 := Lib.hid (Since.refl w)
  obtain ⟨m, hm⟩ : ∃ m, m = IntKind.i64.wrap u := ⟨_, rfl⟩
  rw [← hm] at c3
  have f1 := hm.symm
  clear hm
  go_enter Try.func27, Try.ntmps27
  go_wp2_with fail
  refine (c1).calls ?_
  go_wp2_with fail
  refine (c2).calls ?_
  go_wp2_with fail
  refine c3.calls H0.out ?_
  intro w1 h1
  have H1 := Lib.hid h1
  clear h1
  go_wp2_with fail
  refine c4.calls H1.out ?_
  intro w2 h2
  have H2 := Lib.hid h2
  clear h2
  go_wp2_with fail
  go_ret2
  exact ⟨rfl, H2.out⟩
/-- it is; the number fits, or it doesn't -/
theorem length_same (v : ByteArray) (n : Int) (C : ByteArray) (m : Nat) (hm : m ≤ 65535) (c1 : Ret 37 #[.string v, .int .i64 4, .int .i64 8] (.string C)) (c2 : Ret 50 #[.string C] (.tuple #[.int .u64 (m : Int), .bool true]))
    (c3 : Mak 29 #[.int .i64 (m : Int)] (.string v)) (k : Int) (c4 : Mak 44 #[.string v, .string v] (.tuple #[.bool true, .int .i64 k])) (r : Int) (q : Bool)
    (hr : (n % 8 = 0 ∧ (m : Int) ≤ n ∧ n < (m : Int) + 8) ∧ r = m ∧ q = true ∨ ¬ (n % 8 = 0 ∧ (m : Int) ≤ n ∧ n < (m : Int) + 8) ∧ r = 0 ∧ q = false) :
    Mak 27 #[.string v, .int .i64 n] (.tuple #[.int .i64 r, .bool q]) := by
  intro w
  have H0 := Lib.hid (Since.refl w)
  have e1 : IntKind.i64.wrap (m : Int) = (m : Int) := IntWalk.i64_in _ (by omega)
  have e2 : IntKind.i64.wrap ((m : Int) + 8) = (m : Int) + 8 := IntWalk.i64_in _ (by omega)
  have e3 : n.tmod 8 = 0 ↔ n % 8 = 0 := ⟨fun h => Int.emod_eq_zero_of_dvd (Int.dvd_of_tmod_eq_zero h), fun h => Int.tmod_eq_zero_of_dvd (Int.dvd_of_emod_eq_zero h)⟩
  by_cases h8 : n % 8 = 0
  · have g3 := e3.2 h8
    have t3 : (n % 8 == 0) = true := by rw [beq_iff_eq]; exact h8
    have t4 : (n % 8 != 0) = false := by rw [bne_eq_false_iff_eq]; exact h8
    have t5 : (n.tmod 8 == 0) = true := by rw [beq_iff_eq]; exact g3
    have t6 : (n.tmod 8 != 0) = false := by rw [bne_eq_false_iff_eq]; exact g3
    by_cases h1 : (m : Int) ≤ n
    · have t1 : decide (n < (m : Int)) = false := decide_eq_false (by omega)
      by_cases h2 : n < (m : Int) + 8
      · have t2 : decide ((m : Int) + 8 ≤ n) = false := decide_eq_false (by omega)
        obtain ⟨rfl, rfl⟩ : r = (m : Int) ∧ q = true := by rcases hr with h | h; exact h.2; exact absurd ⟨h8, h1, h2⟩ h.1
        clear hr e3 h8 h1 h2 g3
        go_enter Try.func27, Try.ntmps27
        go_wp2_with fail
        refine (c1).calls ?_
        go_wp2_with fail
        refine (c2).calls ?_
        go_wp2_with fail
        refine c3.calls H0.out ?_
        intro w1 h1
        have H1 := Lib.hid h1
        clear h1
        go_wp2_with fail
        refine c4.calls H1.out ?_
        intro w2 h2
        have H2 := Lib.hid h2
        clear h2
        go_wp2_with fail
        go_ret2
        exact ⟨rfl, H2.out⟩
      · have t2 : decide ((m : Int) + 8 ≤ n) = true := decide_eq_true (by omega)
        obtain ⟨rfl, rfl⟩ : r = 0 ∧ q = false := by rcases hr with h | h; exact absurd h.1.2.2 h2; exact h.2
        clear hr e3 h8 h1 h2 g3
        go_enter Try.func27, Try.ntmps27
        go_wp2_with fail
        refine (c1).calls ?_
        go_wp2_with fail
        refine (c2).calls ?_
        go_wp2_with fail
        refine c3.calls H0.out ?_
        intro w1 h1
        have H1 := Lib.hid h1
        clear h1
        go_wp2_with fail
        refine c4.calls H1.out ?_
        intro w2 h2
        have H2 := Lib.hid h2
        clear h2
        go_wp2_with fail
        go_ret2
        exact ⟨rfl, H2.out⟩
    · have t1 : decide (n < (m : Int)) = true := decide_eq_true (by omega)
      obtain ⟨rfl, rfl⟩ : r = 0 ∧ q = false := by rcases hr with h | h; exact absurd h.1.2.1 h1; exact h.2
      clear hr e3 h8 h1 g3
      go_enter Try.func27, Try.ntmps27
      go_wp2_with fail
      refine (c1).calls ?_
      go_wp2_with fail
      refine (c2).calls ?_
      go_wp2_with fail
      refine c3.calls H0.out ?_
      intro w1 h1
      have H1 := Lib.hid h1
      clear h1
      go_wp2_with fail
      refine c4.calls H1.out ?_
      intro w2 h2
      have H2 := Lib.hid h2
      clear h2
      go_wp2_with fail
      go_ret2
      exact ⟨rfl, H2.out⟩
  · have g3 : n.tmod 8 ≠ 0 := fun h => h8 (e3.1 h)
    have t3 : (n % 8 == 0) = false := by rw [beq_eq_false_iff_ne]; exact h8
    have t4 : (n % 8 != 0) = true := by rw [bne_iff_ne]; exact h8
    have t5 : (n.tmod 8 == 0) = false := by rw [beq_eq_false_iff_ne]; exact g3
    have t6 : (n.tmod 8 != 0) = true := by rw [bne_iff_ne]; exact g3
    obtain ⟨rfl, rfl⟩ : r = 0 ∧ q = false := by rcases hr with h | h; exact absurd h.1.1 h8; exact h.2
    clear hr e3 h8 g3
    go_enter Try.func27, Try.ntmps27
    go_wp2_with fail
    refine (c1).calls ?_
    go_wp2_with fail
    refine (c2).calls ?_
    go_wp2_with fail
    refine c3.calls H0.out ?_
    intro w1 h1
    have H1 := Lib.hid h1
    clear h1
    go_wp2_with fail
    refine c4.calls H1.out ?_
    intro w2 h2
    have H2 := Lib.hid h2
    clear h2
    go_wp2_with fail
    go_ret2
    exact ⟨rfl, H2.out⟩
theorem length_yes (v : ByteArray) (n : Int) (m : Nat) (h : says v n m) : Mak 27 #[.string v, .int .i64 n] (.tuple #[.int .i64 (m : Int), .bool true]) := by
  obtain ⟨h1, h2, hv, h8⟩ := h
  have hs : v.size = 8 := by rw [hv]; exact valS_size m
  obtain ⟨k, c4⟩ := Scan.scan_m v v (by omega) (by omega) true (decide_eq_true rfl).symm
  have hp := put4_size m
  have hC : bs ((v.data.toList.drop 4).take 8) = strOfNums (Oct.putL (m : Int) 4) := by
    have hp2 : (strOfNums (Oct.putL (m : Int) 4)).data.toList.length = 4 := hp
    rw [hv, valS_drop, List.take_of_length_le (by omega)]; exact bs_list _
  have c2 : Ret 50 #[.string (strOfNums (Oct.putL (m : Int) 4))] (.tuple #[.int .u64 (m : Int), .bool true]) := fun w => by
    have h9 := Oct.get_in (strOfNums (Oct.putL (m : Int) 4)) w (by omega) (by omega)
    rwa [num4 m (by omega)] at h9
  exact length_same v n _ m h2 (cut4_yes v (by omega) (by omega) _ hC.symm) c2 (value_yes m h1 h2 v hv) k c4 m true (Or.inl ⟨h8, rfl, rfl⟩)
theorem length_no (v : ByteArray) (n : Int) (hm : v.size ≤ 1000000) (h : ∀ m, ¬ says v n m) : Mak 27 #[.string v, .int .i64 n] (.tuple #[.int .i64 0, .bool false]) := by
  by_cases h4 : v.size ≤ 4
  · exact (length_short v n hm h4).mak
  · obtain ⟨C, hC⟩ : ∃ C, C = bs ((v.data.toList.drop 4).take 8) := ⟨_, rfl⟩
    have hl : v.data.toList.length = v.size := rfl
    have hCs : C.size = min 8 (v.size - 4) := by rw [hC, size_bs, List.length_take, List.length_drop, hl]
    have c1 := cut4_yes v hm (by omega) C hC
    obtain ⟨u, hu⟩ : ∃ u, u = Oct.numN C.data.toList := ⟨_, rfl⟩
    have c2 : Ret 50 #[.string C] (.tuple #[.int .u64 (u : Int), .bool true]) := fun w => by
      rw [hu]; exact Oct.get_in C w (by omega) (by omega)
    by_cases hw : 1 ≤ IntKind.i64.wrap (u : Int) ∧ IntKind.i64.wrap (u : Int) ≤ 65535
    · obtain ⟨m, hm2⟩ : ∃ m : Nat, IntKind.i64.wrap (u : Int) = (m : Int) := Int.eq_ofNat_of_zero_le (by omega)
      have c3 : Mak 29 #[.int .i64 (IntKind.i64.wrap (u : Int))] (.string (valS m)) := by
        rw [hm2]; exact value_yes m (by omega) (by omega) _ rfl
      by_cases hv : v = valS m
      · have hmu : u = m := by
          have hp := put4_size m
          have hp2 : (strOfNums (Oct.putL (m : Int) 4)).data.toList.length = 4 := hp
          rw [hu, hC, list_bs, hv, valS_drop, List.take_of_length_le (by omega), num4 m (by omega)]
        subst hmu
        obtain ⟨k, c4⟩ := Scan.scan_m v v (by omega) (by omega) true (decide_eq_true rfl).symm
        have c3b := value_yes u (by omega) (by omega) v hv
        exact length_same v n C u (by omega) c1 c2 c3b k c4 0 false (Or.inr ⟨fun h8 => h u ⟨by omega, by omega, hv, h8⟩, rfl, rfl⟩)
      · obtain ⟨k, c4⟩ := Scan.scan_m v (valS m) (by omega) (by rw [valS_size]; omega) false (decide_eq_false hv).symm
        exact length_other v n C u _ c1 c2 c3 k c4
    · have c3 := (value_no (IntKind.i64.wrap (u : Int)) (by omega)).mak
      have hv : v ≠ ⟨#[]⟩ := fun h9 => h4 (by rw [h9]; decide)
      obtain ⟨k, c4⟩ := Scan.scan_m v ⟨#[]⟩ (by omega) (by decide) false (decide_eq_false hv).symm
      exact length_other v n C u _ c1 c2 c3 k c4
end Pad
end Go.Proofs.Ytefoonegobcoaaa

/- Package padwrap: Wrap, parts, Unwrap. -/
namespace Go.Proofs.Ytefoonegobcoaaa
open Go.RowKit
namespace Pad
open Wrap Aes

theorem nought_m (s : ByteArray) (hm : s.size ≤ 140737488355327) (q : Bool) (hq : q = decide (∀ c ∈ s.data.toList, c = 0)) : Mak 49 #[.string s] (.tuple #[.bool q, .int .i64 (s.size : Int)]) := by
  refine Eql.nought_any s hm q ?_
  rw [hq]
  congr 1
  have hl : s.data.toList.length = s.size := rfl
  refine propext ⟨fun h => ?_, fun h c hc => ?_⟩
  · have hz : ∀ n, n ≤ s.size → Eql.unl s.data.toList (Eql.zs s.data.toList) n = 0 := by
      intro n
      induction n with
      | zero => intro _; rfl
      | succ n ih =>
        intro hn
        show Eql.unl _ _ n + _ = 0
        have hd : Eql.df s.data.toList (Eql.zs s.data.toList) n = 0 := by
          rw [Eql.df_zs _ _ (by omega), h _ (List.getElem_mem _)]; rfl
        rw [ih (by omega), if_pos hd]
    exact hz _ (Nat.le_refl _)
  · obtain ⟨i, hi, rfl⟩ := List.getElem_of_mem hc
    have h2 := Scan.unl_zero _ _ _ h i (by omega)
    rw [Eql.df_zs _ _ hi] at h2
    exact UInt8.toNat_inj.1 h2
/-- with bytes 0 up to a multiple of 8 -/
def padS (s : ByteArray) : ByteArray := bs (s.data.toList ++ List.replicate ((8 - s.size % 8) % 8) 0)
theorem padS_size (s : ByteArray) : (padS s).size = (s.size + 7) / 8 * 8 := by
  have hl : s.data.toList.length = s.size := rfl
  unfold padS
  rw [size_bs, List.length_append, List.length_replicate, hl]; omega
theorem pad_m (s : ByteArray) (hm : s.size ≤ 1000000) (X : ByteArray) (hX : X = padS s) : Mak 45 #[.string s, .int .i64 8] (.string X) := by
  by_cases h : s.size % 8 = 0
  · have he : X = s := by
      rw [hX, padS, h]
      simp only [Nat.sub_zero, Nat.mod_self, List.replicate_zero, List.append_nil]
      exact bs_list s
    rw [he]
    have hr : Ret 45 #[.string s, .int .i64 8] (.string s) := fun w => Oct.pad_even s 8 w (by omega) (by omega) (by omega) h
    exact hr.mak
  · intro w
    have h2 := Oct.pad_odd s 8 (s.size % 8) w (by omega) (by omega) (by omega) rfl (by omega)
    have he : X = bs (s.data.toList ++ List.replicate (8 - s.size % 8) 0) := by
      rw [hX, padS, Nat.mod_eq_of_lt (show 8 - s.size % 8 < 8 from by omega)]
    rw [he]; exact h2
/-- a text wrapped with padding -/
def pwK (key s : ByteArray) : ByteArray := if s.size ≤ 8 then encK key (bs ((valS s.size).data.toList ++ (padS s).data.toList)) else rawK key (valS s.size) (padS s)
theorem wrap_nokey (key s : ByteArray) (hm : key.size ≤ 1000000) (hk : ¬ keyOk key) : Ret 23 #[.string key, .string s] (.tuple #[.string ⟨#[]⟩, .int .i64 2]) := by
  intro w
  have c1 := new_no key hm hk
  clear hk
  go_enter Try.func23, Try.ntmps23
  go_wp2_with fail
  refine (c1).calls ?_
  go_wp2_with fail
  go_ret2
  exact ⟨rfl, rfl⟩
theorem wrap_nosize (key s : ByteArray) (hk : keyOk key) (hs : s.size < 1 ∨ 65535 < s.size) : Mak 23 #[.string key, .string s] (.tuple #[.string ⟨#[]⟩, .int .i64 4]) := by
  intro w
  have H0 := Lib.hid (Since.refl w)
  have c1 := new_key key hk
  have c2 := size_no (s.size : Int) (by omega)
  clear hk hs
  go_enter Try.func23, Try.ntmps23
  go_wp2_with fail
  refine c1 _ _ H0.out _ ?_
  intro c w1 hC _ h1
  have H1 := Lib.hid h1
  clear hC h1
  go_wp2_with fail
  refine (c2).calls ?_
  go_wp2_with fail
  go_ret2
  exact ⟨rfl, H1.out⟩
set_option maxRecDepth 100000 in
set_option maxHeartbeats 1000000 in
theorem wrap_one (key s : ByteArray) (hk : keyOk key) (h1 : 1 ≤ s.size) (h8 : s.size ≤ 8) (X : ByteArray) (hX : X = pwK key s) : Mak 23 #[.string key, .string s] (.tuple #[.string X, .int .i64 0]) := by
  intro w
  have H0 := Lib.hid (Since.refl w)
  have c1 := new_key key hk
  obtain ⟨z, hz⟩ : ∃ z, z = ((s.size : Int) + 7) / 8 * 8 + 8 := ⟨_, rfl⟩
  have c2 := size_yes s.size h1 (by omega) z hz
  have t1 : (z == 0) = false := by rw [beq_eq_false_iff_ne]; omega
  obtain ⟨V, hV⟩ : ∃ V, V = valS s.size := ⟨_, rfl⟩
  have c3 := value_yes s.size h1 (by omega) V hV
  obtain ⟨P, hP⟩ : ∃ P, P = padS s := ⟨_, rfl⟩
  have c4 := pad_m s (by omega) P hP
  have hPs : P.size = 8 := by rw [hP, padS_size]; omega
  have hVs : V.size = 8 := by rw [hV, valS_size]
  have hPl : P.data.toList.length = 8 := hPs
  have hVl : V.data.toList.length = 8 := hVs
  have t2 : ((P.size : Int) == 8) = true := by rw [beq_iff_eq]; omega
  obtain ⟨J, hJ⟩ : ∃ J, J = bs (V.data.toList ++ P.data.toList) := ⟨_, rfl⟩
  have hJs : J.size = 16 := by rw [hJ, size_bs, List.length_append]; omega
  have c8 := fun W => Oct.join_lit W [V, P] 2 rfl #[.string V, .string P] rfl J (by rw [hJ, Oct.cat_two]) (by omega) (by decide)
  have c9 := fun c w hC => cenc_yes c key J hJs X (by rw [hX, pwK, if_pos h8, hJ, hV, hP]) w hC
  have HC8 := Lib.hid c8
  have HC9 := Lib.hid c9
  clear hk hz h1 h8 hX hV hP hPs hVs hPl hVl hJ hJs c8 c9
  go_enter Try.func23, Try.ntmps23
  go_wp2_with fail
  refine c1 _ _ H0.out _ ?_
  intro c w1 hC _ h1
  have HC := Lib.hid hC
  have H1 := Lib.hid h1
  clear hC h1
  go_wp2_with fail
  refine (c2).calls ?_
  go_wp2_with fail
  have HF := Lib.hid (Since.refl w1)
  refine c3.calls HF.out ?_
  intro w2 h2
  have H2 := Lib.hid h2
  clear h2
  go_wp2_with fail
  refine c4.calls H2.out ?_
  intro w3 h3
  have H3 := Lib.hid h3
  clear h3
  go_wp2_with fail
  refine (HC8.out _).mono ?_
  rintro e w3 ⟨rfl, h3⟩
  have H5 := Lib.hid (Since.step H3.out h3)
  clear h3
  go_wp2_with fail
  refine (HC9.out c _ (HC.out.since H5.out)).mono ?_
  rintro e w4 ⟨rfl, h4⟩
  have H6 := Lib.hid (Since.step (Since.step H1.out H5.out) h4)
  clear h4
  go_wp2_with fail
  go_ret2
  exact ⟨rfl, H6.out⟩
set_option maxRecDepth 100000 in
set_option maxHeartbeats 1000000 in
theorem wrap_more (key s : ByteArray) (hk : keyOk key) (h1 : 8 < s.size) (h8 : s.size ≤ 65535) (X : ByteArray) (hX : X = pwK key s) : Mak 23 #[.string key, .string s] (.tuple #[.string X, .int .i64 0]) := by
  intro w
  have H0 := Lib.hid (Since.refl w)
  have c1 := new_key key hk
  obtain ⟨z, hz⟩ : ∃ z, z = ((s.size : Int) + 7) / 8 * 8 + 8 := ⟨_, rfl⟩
  have c2 := size_yes s.size (by omega) (by omega) z hz
  have t1 : (z == 0) = false := by rw [beq_eq_false_iff_ne]; omega
  obtain ⟨V, hV⟩ : ∃ V, V = valS s.size := ⟨_, rfl⟩
  have c3 := value_yes s.size (by omega) (by omega) V hV
  obtain ⟨P, hP⟩ : ∃ P, P = padS s := ⟨_, rfl⟩
  have c4 := pad_m s (by omega) P hP
  have hPs : P.size = (s.size + 7) / 8 * 8 := by rw [hP, padS_size]
  have t2 : ((P.size : Int) == 8) = false := by rw [beq_eq_false_iff_ne]; omega
  have c5 := raw_yes key V P hk (by rw [hV, valS_size]) (by unfold fits; omega) X (by rw [hX, pwK, if_neg (by omega), hV, hP])
  clear hk hz h1 h8 hX hV hP hPs
  go_enter Try.func23, Try.ntmps23
  go_wp2_with fail
  refine c1 _ _ H0.out _ ?_
  intro c w1 hC _ h1
  have H1 := Lib.hid h1
  clear hC h1
  go_wp2_with fail
  refine (c2).calls ?_
  go_wp2_with fail
  refine c3.calls H1.out ?_
  intro w2 h2
  have H2 := Lib.hid h2
  clear h2
  go_wp2_with fail
  refine c4.calls H2.out ?_
  intro w3 h3
  have H3 := Lib.hid h3
  clear h3
  go_wp2_with fail
  refine c5.calls H3.out ?_
  intro w4 h4
  have H4 := Lib.hid h4
  clear h4
  go_wp2_with fail
  go_ret2
  exact ⟨rfl, H4.out⟩
theorem parts_more (key c V P : ByteArray) (e : Int) (h : c.size ≠ 16) (_hm : c.size ≤ 1000000) (c1 : Mak 12 #[.string key, .string c] (.tuple #[.string V, .string P, .int .i64 e])) : Mak 48 #[.string key, .string c] (.tuple #[.string V, .string P, .int .i64 e]) := by
  intro w
  have H0 := Lib.hid (Since.refl w)
  have t1 : ((c.size : Int) == 16) = false := by rw [beq_eq_false_iff_ne]; omega
  have t2 : ((c.size : Int) != 16) = true := by rw [bne_iff_ne]; omega
  clear h
  go_enter Try.func48, Try.ntmps48
  go_wp2_with fail
  refine c1.calls H0.out ?_
  intro w1 h1
  have H1 := Lib.hid h1
  clear h1
  go_wp2_with fail
  go_ret3
  exact ⟨rfl, H1.out⟩
theorem parts_nokey (key c : ByteArray) (h : c.size = 16) (hm : key.size ≤ 1000000) (hk : ¬ keyOk key) : Mak 48 #[.string key, .string c] (.tuple #[.string ⟨#[]⟩, .string ⟨#[]⟩, .int .i64 2]) := by
  intro w
  have H0 := Lib.hid (Since.refl w)
  have t1 : ((c.size : Int) == 16) = true := by rw [beq_iff_eq]; omega
  have t2 : ((c.size : Int) != 16) = false := by rw [bne_eq_false_iff_eq]; omega
  have c1 := decrypt_nokey key c hm hk
  have c2 : Ret 37 #[.string ⟨#[]⟩, .int .i64 0, .int .i64 8] (.string ⟨#[]⟩) := fun w => Oct.cut_no ⟨#[]⟩ 0 8 w (by decide) (by decide)
  have c3 : Ret 37 #[.string ⟨#[]⟩, .int .i64 8, .int .i64 8] (.string ⟨#[]⟩) := fun w => Oct.cut_no ⟨#[]⟩ 8 8 w (by decide) (by decide)
  clear h hk
  go_enter Try.func48, Try.ntmps48
  go_wp2_with fail
  refine (c1).calls ?_
  go_wp2_with fail
  refine (c2).calls ?_
  go_wp2_with fail
  refine (c3).calls ?_
  go_wp2_with fail
  go_ret3
  exact ⟨rfl, H0.out⟩
theorem parts_one (key c : ByteArray) (h : c.size = 16) (hk : keyOk key) (B V P : ByteArray) (hB : B = decK key c) (hV : V = hd8 B) (hP : P = bs (B.data.toList.drop 8)) : Mak 48 #[.string key, .string c] (.tuple #[.string V, .string P, .int .i64 0]) := by
  intro w
  have H0 := Lib.hid (Since.refl w)
  have t1 : ((c.size : Int) == 16) = true := by rw [beq_iff_eq]; omega
  have t2 : ((c.size : Int) != 16) = false := by rw [bne_eq_false_iff_eq]; omega
  have hBs : B.size = 16 := by rw [hB]; exact decK_size key c
  have c1 := decrypt_yes key c hk h B hB
  have c2 := cut_lo B hBs V hV
  have c3 := cut_hi B hBs P hP
  clear h hk hB hV hP hBs
  go_enter Try.func48, Try.ntmps48
  go_wp2_with fail
  refine c1.calls H0.out ?_
  intro w1 h1
  have H1 := Lib.hid h1
  clear h1
  go_wp2_with fail
  refine (c2).calls ?_
  go_wp2_with fail
  refine (c3).calls ?_
  go_wp2_with fail
  go_ret3
  exact ⟨rfl, H1.out⟩
theorem unwrap_bad (key c : ByteArray) (e : Int) (he : (e != 0) = true) (c1 : Mak 48 #[.string key, .string c] (.tuple #[.string ⟨#[]⟩, .string ⟨#[]⟩, .int .i64 e])) : Mak 25 #[.string key, .string c] (.tuple #[.string ⟨#[]⟩, .int .i64 e]) := by
  intro w
  have H0 := Lib.hid (Since.refl w)
  have he2 : (e == 0) = false := by rw [beq_eq_false_iff_ne]; exact bne_iff_ne.1 he
  go_enter Try.func25, Try.ntmps25
  go_wp2_with fail
  refine c1.calls H0.out ?_
  intro w1 h1
  have H1 := Lib.hid h1
  clear h1
  go_wp2_with fail
  go_ret2
  exact ⟨rfl, H1.out⟩
theorem unwrap_nolen (key c V P : ByteArray) (hP : 8 ≤ P.size) (hPm : P.size ≤ 100000) (hv : V.size ≤ 1000000) (hno : ∀ m, ¬ says V (P.size : Int) m) (c1 : Mak 48 #[.string key, .string c] (.tuple #[.string V, .string P, .int .i64 0])) : Mak 25 #[.string key, .string c] (.tuple #[.string ⟨#[]⟩, .int .i64 7]) := by
  intro w
  have H0 := Lib.hid (Since.refl w)
  have c2 := length_no V (P.size : Int) hv hno
  obtain ⟨T, hT⟩ : ∃ T, T = P.extract ((P.size : Int) - 8 + 1).toNat P.size := ⟨_, rfl⟩
  have hTs : T.size ≤ P.size := by
    have h9 : P.data.toList.length = P.size := rfl
    show T.data.toList.length ≤ _
    rw [hT, ext_list, List.length_take, List.length_drop]; omega
  obtain ⟨q, hq⟩ : ∃ q, q = decide (∀ c ∈ T.data.toList, c = 0) := ⟨_, rfl⟩
  have c3 := nought_m T (by omega) q hq
  obtain ⟨k, hk⟩ : ∃ k : Int, k = (T.size : Int) := ⟨_, rfl⟩
  rw [← hk] at c3
  have f1 := hT.symm
  have i1 : (0 : Int) ≤ (P.size : Int) - 8 + 1 := by omega
  have i2 : (P.size : Int) - 8 + 1 ≤ (P.size : Int) := by omega
  have i3 : (P.size : Int) ≤ 100000 := by omega
  have i4 : (8 : Int) ≤ (P.size : Int) := by omega
  have e1 : IntKind.i64.wrap ((P.size : Int) - 8) = (P.size : Int) - 8 := IntWalk.i64_in _ (by omega)
  have e2 : IntKind.i64.wrap ((P.size : Int) - 8 + 1) = (P.size : Int) - 8 + 1 := IntWalk.i64_in _ (by omega)
  clear hno hT hq hTs hk
  go_enter Try.func25, Try.ntmps25
  go_wp2_with fail
  refine c1.calls H0.out ?_
  intro w1 h1
  have H1 := Lib.hid h1
  clear h1
  go_wp2_with fail
  refine c2.calls H1.out ?_
  intro w2 h2
  have H2 := Lib.hid h2
  clear h2
  go_wp2_with fail
  refine c3.calls H2.out ?_
  intro w3 h3
  have H3 := Lib.hid h3
  clear h3
  go_wp2_with fail
  go_ret2
  exact ⟨rfl, H3.out⟩
theorem unwrap_some (key c V P : ByteArray) (hPm : P.size ≤ 100000) (m : Nat) (hs : says V (P.size : Int) m) (T : ByteArray) (hT : T = P.extract m P.size) (q : Bool) (hq : q = decide (∀ c ∈ T.data.toList, c = 0)) (S : ByteArray) (hS : S = P.extract 0 m)
    (c1 : Mak 48 #[.string key, .string c] (.tuple #[.string V, .string P, .int .i64 0])) (R : ByteArray) (e : Int) (hR : q = true ∧ R = S ∧ e = 0 ∨ q = false ∧ R = ⟨#[]⟩ ∧ e = 7) : Mak 25 #[.string key, .string c] (.tuple #[.string R, .int .i64 e]) := by
  intro w
  have H0 := Lib.hid (Since.refl w)
  have c2 := length_yes V (P.size : Int) m hs
  have hTs : T.size ≤ P.size := by
    have h9 : P.data.toList.length = P.size := rfl
    show T.data.toList.length ≤ _
    rw [hT, ext_list, List.length_take, List.length_drop]; omega
  have c3 := nought_m T (by omega) q hq
  obtain ⟨k, hk⟩ : ∃ k : Int, k = (T.size : Int) := ⟨_, rfl⟩
  rw [← hk] at c3
  have f1 := hT.symm
  have f2 := hS.symm
  have i1 : (0 : Int) ≤ (m : Int) := by omega
  have i2 : (m : Int) ≤ (P.size : Int) := hs.2.2.2.2.1
  have i3 : (P.size : Int) ≤ 100000 := by omega
  clear hs hT hS hq hTs hk
  rcases hR with ⟨rfl, rfl, rfl⟩ | ⟨rfl, rfl, rfl⟩
  all_goals
    go_enter Try.func25, Try.ntmps25
    go_wp2_with fail
    refine c1.calls H0.out ?_
    intro w1 h1
    have H1 := Lib.hid h1
    clear h1
    go_wp2_with fail
    refine c2.calls H1.out ?_
    intro w2 h2
    have H2 := Lib.hid h2
    clear h2
    go_wp2_with fail
    refine c3.calls H2.out ?_
    intro w3 h3
    have H3 := Lib.hid h3
    clear h3
    go_wp2_with fail
    go_ret2
    exact ⟨rfl, H3.out⟩
end Pad
end Go.Proofs.Ytefoonegobcoaaa

/- The reference of padwrap. -/
namespace Go.Proofs.Ytefoonegobcoaaa
open Go.RowKit
namespace RefPad
open Wrap Aes Pad

theorem value_yes (n : Nat) (h1 : 1 ≤ n) (h2 : n ≤ 65535) (V : ByteArray) (hV : V = valS n) : Mak 30 #[.int .i64 (n : Int)] (.string V) := by
  intro w
  have H0 := Lib.hid (Since.refl w)
  have t1 : decide ((n : Int) < 1) = false := decide_eq_false (by omega)
  have t2 : decide ((65535 : Int) < (n : Int)) = false := decide_eq_false (by omega)
  have e1 : IntKind.u64.wrap (n : Int) = (n : Int) := IntWalk.u64_in _ (by omega)
  obtain ⟨P, hP⟩ : ∃ P, P = strOfNums (Oct.putL (n : Int) 4) := ⟨_, rfl⟩
  have hPs : P.size = 4 := by rw [hP]; exact put4_size n
  have c1 : Mak 41 #[.int .u64 (n : Int), .int .i64 4] (.string P) := fun w => by
    have h := RefOct.put_mid (n : Int) 4 w (by omega) (by omega) (by decide) (by decide)
    rw [hP, RefOct.put_same _ 4 (by decide)]; exact h
  have f1 : Pad.mark ++ P = V := by
    rw [hV, valS, ← hP]
    apply ba_ext
    rw [app_list, list_bs]
  have z1 : ¬ 9223372036854775807 < Pad.mark.size + P.size := by rw [hPs]; decide
  unfold Pad.mark at f1 z1
  clear hP hV hPs
  go_enter Try.func30, Try.ntmps30
  go_wp2_with fail
  refine c1.calls H0.out ?_
  intro w1 h1
  have H1 := Lib.hid h1
  clear h1
  go_wp2_with fail
  go_ret
  exact ⟨rfl, H1.out⟩
theorem value_no (n : Int) (h : n < 1 ∨ 65535 < n) : Ret 30 #[.int .i64 n] (.string ⟨#[]⟩) := by
  intro w
  by_cases h1 : n < 1
  · have t1 : decide (n < 1) = true := decide_eq_true h1
    clear h
    go_enter Try.func30, Try.ntmps30
    go_wp2_with fail
    go_ret
    exact ⟨rfl, rfl⟩
  · have t1 : decide (n < 1) = false := decide_eq_false h1
    have t2 : decide ((65535 : Int) < n) = true := decide_eq_true (by omega)
    clear h
    go_enter Try.func30, Try.ntmps30
    go_wp2_with fail
    go_ret
    exact ⟨rfl, rfl⟩
theorem size_no (n : Int) (h : n < 1 ∨ 65535 < n) : Ret 32 #[.int .i64 n] (.int .i64 0) := by
  intro w
  by_cases h1 : n < 1
  · have t1 : decide (n < 1) = true := decide_eq_true h1
    clear h
    go_enter Try.func32, Try.ntmps32
    go_wp2_with fail
    go_ret
    exact ⟨rfl, rfl⟩
  · have t1 : decide (n < 1) = false := decide_eq_false h1
    have t2 : decide ((65535 : Int) < n) = true := decide_eq_true (by omega)
    clear h
    go_enter Try.func32, Try.ntmps32
    go_wp2_with fail
    go_ret
    exact ⟨rfl, rfl⟩
theorem size_yes (n : Nat) (h1 : 1 ≤ n) (h2 : n ≤ 65535) (x : Int) (hx : x = ((n : Int) + 7) / 8 * 8 + 8) : Ret 32 #[.int .i64 (n : Int)] (.int .i64 x) := by
  intro w
  have t1 : decide ((n : Int) < 1) = false := decide_eq_false (by omega)
  have t2 : decide ((65535 : Int) < (n : Int)) = false := decide_eq_false (by omega)
  have i1 : (0 : Int) ≤ (n : Int) := by omega
  have i2 : (n : Int) ≤ 65535 := by omega
  obtain rfl : x = 8 * (((n : Int) + 7) / 8) + 8 := by omega
  clear hx
  go_enter Try.func32, Try.ntmps32
  go_wp2_with fail
  go_ret
  exact ⟨rfl, rfl⟩
theorem key_no (key : ByteArray) (_hm : key.size ≤ 1000000) (hk : ¬ keyOk key) : Ret 46 #[.string key] (.bool false) := by
  intro w
  unfold keyOk at hk
  have b1 : ((key.size : Int) == 16) = false := by rw [beq_eq_false_iff_ne]; omega
  have b2 : ((key.size : Int) == 24) = false := by rw [beq_eq_false_iff_ne]; omega
  have b3 : ((key.size : Int) == 32) = false := by rw [beq_eq_false_iff_ne]; omega
  clear hk
  go_enter Try.func46, Try.ntmps46
  go_wp2_with fail
  go_ret
  exact ⟨rfl, rfl⟩
theorem key_yes (key : ByteArray) (hk : keyOk key) : Ret 46 #[.string key] (.bool true) := by
  intro w
  unfold keyOk at hk
  rcases hk with hk | hk | hk
  all_goals
    have hki : (key.size : Int) = _ := congrArg (fun n : Nat => (n : Int)) hk
    clear hk
    go_enter Try.func46, Try.ntmps46
    go_wp2_with fail
    go_ret
    exact ⟨rfl, rfl⟩
theorem length_odd (v : ByteArray) (n : Int) (h : n % 8 ≠ 0) : Ret 28 #[.string v, .int .i64 n] (.tuple #[.int .i64 0, .bool false]) := by
  intro w
  have g3 : n.tmod 8 ≠ 0 := fun h9 => h (Int.emod_eq_zero_of_dvd (Int.dvd_of_tmod_eq_zero h9))
  have t3 : (n % 8 == 0) = false := by rw [beq_eq_false_iff_ne]; exact h
  have t4 : (n % 8 != 0) = true := by rw [bne_iff_ne]; exact h
  have t5 : (n.tmod 8 == 0) = false := by rw [beq_eq_false_iff_ne]; exact g3
  have t6 : (n.tmod 8 != 0) = true := by rw [bne_iff_ne]; exact g3
  clear h g3
  go_enter Try.func28, Try.ntmps28
  go_wp2_with fail
  go_ret2
  exact ⟨rfl, rfl⟩
theorem length_any (v : ByteArray) (n : Int) (h8 : n % 8 = 0) (lo : -9223372036854775800 ≤ n) (hi : n ≤ 9223372036854775800) (r : Int) (q : Bool)
    (hr : (∃ m : Nat, says v n m ∧ r = m ∧ q = true) ∨ (∀ m, ¬ says v n m) ∧ r = 0 ∧ q = false) : Mak 28 #[.string v, .int .i64 n] (.tuple #[.int .i64 r, .bool q]) := by
  intro w
  have H0 := Lib.hid (Since.refl w)
  have g3 : n.tmod 8 = 0 := Int.tmod_eq_zero_of_dvd (Int.dvd_of_emod_eq_zero h8)
  have t3 : (n % 8 == 0) = true := by rw [beq_iff_eq]; exact h8
  have t4 : (n % 8 != 0) = false := by rw [bne_eq_false_iff_eq]; exact h8
  have t5 : (n.tmod 8 == 0) = true := by rw [beq_iff_eq]; exact g3
  have t6 : (n.tmod 8 != 0) = false := by rw [bne_eq_false_iff_eq]; exact g3
  have e1 : IntKind.i64.wrap (n - 7) = n - 7 := IntWalk.i64_in _ (by omega)
  have e2 : IntKind.i64.wrap (n - 8) = n - 8 := IntWalk.i64_in _ (by omega)
  have HR := Lib.hid hr
  have H8 := Lib.hid h8
  clear hr g3 h8
  go_enter Try.func28, Try.ntmps28
  go_wp2_with fail
  go_loopw [6] (fun i wr => ∃ (k : Nat) (x : Int), k ≤ 8 ∧ x = n - 7 + (k : Int) ∧ i = .int .i64 x ∧ Hid (∀ m : Nat, (m : Int) < x → ¬ says v n m) ∧ Hid (Since w wr)) (fun i _ => (n + 1 - intOf i).toNat)
  case atStart => exact ⟨0, n - 7, by omega, by omega, rfl, Lib.hid (fun m hm hs => by have := hs.2.2.2.2.2; omega), H0⟩
  case round =>
    obtain ⟨k, x, hk, hx, rfl, HN, HS⟩ := hrel
    have e3 : IntKind.i64.wrap (x + 1) = x + 1 := IntWalk.i64_in _ (by omega)
    have HXX := Lib.hid hx
    by_cases hlt : k < 8
    · have d1 : decide (x ≤ n) = true := decide_eq_true (by omega)
      have d2 : decide (n - 8 < x) = true := decide_eq_true (by omega)
      by_cases h0 : 0 < x
      · have d3 : decide (0 < x) = true := decide_eq_true h0
        by_cases h6 : x < 65536
        · have d4 : decide (x < 65536) = true := decide_eq_true h6
          obtain ⟨m, hm⟩ := Int.eq_ofNat_of_zero_le (Int.le_of_lt h0)
          obtain ⟨V, hV⟩ : ∃ V, V = valS m := ⟨_, rfl⟩
          have c1 := value_yes m (by omega) (by omega) V hV
          rw [← hm] at c1
          by_cases hv : v = V
          · have hs : says v n m := ⟨by omega, by omega, hv.trans hV, H8.out, by omega, by omega⟩
            obtain ⟨rfl, rfl⟩ : r = x ∧ q = true := by
              rcases HR.out with ⟨m2, h2, h3, h4⟩ | h
              · exact ⟨by rw [h3, hm, says_one v n m2 m h2 hs], h4⟩
              · exact absurd hs (h.1 m)
            have hb : (v.toList == V.toList) = true := str_eq_t hv
            clear hv hs hV hm hx
            go_wp2_with fail
            refine c1.calls HS.out ?_
            intro w1 h1
            have H1 := Lib.hid h1
            clear h1
            go_wp2_with fail
            go_ret2
            exact ⟨rfl, H1.out⟩
          · have hs : ¬ says v n m := fun h9 => hv (h9.2.2.1.trans hV.symm)
            have hb : (v.toList == V.toList) = false := str_ne_f hv
            have hN2 : ∀ m2 : Nat, (m2 : Int) < x + 1 → ¬ says v n m2 := fun m2 h9 => by
              by_cases h10 : (m2 : Int) < x
              · exact HN.out m2 h10
              · obtain rfl : m2 = m := by omega
                exact hs
            have HN2 := Lib.hid hN2
            clear hN2
            clear hv hs hV hm hx
            go_wp2_with fail
            refine c1.calls HS.out ?_
            intro w1 h1
            have H1 := Lib.hid h1
            clear h1
            go_wp2_with fail
            go_roundw
            case rel => exact ⟨k + 1, x + 1, by omega, by have := HXX.out; omega, rfl, HN2, H1⟩
            case measure => have := HXX.out; simp [intOf]; omega
        · have d4 : decide (x < 65536) = false := decide_eq_false h6
          have hN2 : ∀ m2 : Nat, (m2 : Int) < x + 1 → ¬ says v n m2 := fun m2 h9 h10 => by
            by_cases h11 : (m2 : Int) < x
            · exact HN.out m2 h11 h10
            · have := h10.2.1; omega
          have HN2 := Lib.hid hN2
          clear hN2
          clear hx
          go_wp2_with fail
          go_roundw
          case rel => exact ⟨k + 1, x + 1, by omega, by have := HXX.out; omega, rfl, HN2, HS⟩
          case measure => have := HXX.out; simp [intOf]; omega
      · have d3 : decide (0 < x) = false := decide_eq_false h0
        have hN2 : ∀ m2 : Nat, (m2 : Int) < x + 1 → ¬ says v n m2 := fun m2 h9 h10 => by
          by_cases h11 : (m2 : Int) < x
          · exact HN.out m2 h11 h10
          · have := h10.1; omega
        have HN2 := Lib.hid hN2
        clear hN2
        clear hx
        go_wp2_with fail
        go_roundw
        case rel => exact ⟨k + 1, x + 1, by omega, by have := HXX.out; omega, rfl, HN2, HS⟩
        case measure => have := HXX.out; simp [intOf]; omega
    · have d1 : decide (x ≤ n) = false := decide_eq_false (by omega)
      obtain ⟨rfl, rfl⟩ : r = 0 ∧ q = false := by
        rcases HR.out with ⟨m2, h2, _⟩ | h
        · exact absurd h2 (HN.out m2 (by have := h2.2.2.2.2.1; omega))
        · exact h.2
      clear hx
      go_wp2_with fail
      go_ret2
      exact ⟨rfl, HS.out⟩
end RefPad
end Go.Proofs.Ytefoonegobcoaaa

/- The reference of padwrap: Wrap, Unwrap. -/
namespace Go.Proofs.Ytefoonegobcoaaa
open Go.RowKit
namespace RefPad
open Wrap Aes Pad

theorem pad8_m (s : ByteArray) (hm : s.size ≤ 1000000) (X : ByteArray) (hX : X = padS s) : Mak 47 #[.string s, .int .i64 8] (.string X) := by
  have h := RefOct.pad_yes s 8 (by omega) (by decide) (by decide) ((8 - s.size % 8) % 8) (by omega) (fun k hk h => by omega) (by omega)
  rw [hX, padS]; exact h
theorem wrap_nokey (key s : ByteArray) (hm : key.size ≤ 1000000) (hk : ¬ keyOk key) : Ret 24 #[.string key, .string s] (.tuple #[.string ⟨#[]⟩, .int .i64 2]) := by
  intro w
  have c1 := key_no key hm hk
  clear hk
  go_enter Try.func24, Try.ntmps24
  go_wp2_with fail
  refine (c1).calls ?_
  go_wp2_with fail
  go_ret2
  exact ⟨rfl, rfl⟩
theorem wrap_nosize (key s : ByteArray) (hk : keyOk key) (hs : s.size < 1 ∨ 65535 < s.size) : Ret 24 #[.string key, .string s] (.tuple #[.string ⟨#[]⟩, .int .i64 4]) := by
  intro w
  have c1 := key_yes key hk
  have c2 := size_no (s.size : Int) (by omega)
  clear hk hs
  go_enter Try.func24, Try.ntmps24
  go_wp2_with fail
  refine (c1).calls ?_
  go_wp2_with fail
  refine (c2).calls ?_
  go_wp2_with fail
  go_ret2
  exact ⟨rfl, rfl⟩
theorem wrap_one (key s : ByteArray) (hk : keyOk key) (h1 : 1 ≤ s.size) (h8 : s.size ≤ 8) (X : ByteArray) (hX : X = pwK key s) : Mak 24 #[.string key, .string s] (.tuple #[.string X, .int .i64 0]) := by
  intro w
  have H0 := Lib.hid (Since.refl w)
  have c1 := key_yes key hk
  obtain ⟨z, hz⟩ : ∃ z, z = ((s.size : Int) + 7) / 8 * 8 + 8 := ⟨_, rfl⟩
  have c2 := size_yes s.size h1 (by omega) z hz
  have t1 : (z == 0) = false := by rw [beq_eq_false_iff_ne]; omega
  obtain ⟨V, hV⟩ : ∃ V, V = valS s.size := ⟨_, rfl⟩
  have c3 := value_yes s.size h1 (by omega) V hV
  obtain ⟨P, hP⟩ : ∃ P, P = padS s := ⟨_, rfl⟩
  have c4 := pad8_m s (by omega) P hP
  have hPs : P.size = 8 := by rw [hP, padS_size]; omega
  have hVs : V.size = 8 := by rw [hV, valS_size]
  have t2 : ((P.size : Int) == 8) = true := by rw [beq_iff_eq]; omega
  obtain ⟨J, hJ⟩ : ∃ J, J = V ++ P := ⟨_, rfl⟩
  have hJb : J = bs (V.data.toList ++ P.data.toList) := by
    apply ba_ext
    rw [hJ, app_list, list_bs]
  have hPl : P.data.toList.length = 8 := hPs
  have hVl : V.data.toList.length = 8 := hVs
  have hJs : J.size = 16 := by rw [hJb, size_bs, List.length_append]; omega
  have c5 := RefAes.enc_yes key J hk hJs X (by rw [hX, pwK, if_pos h8, hJb, hV, hP])
  have f1 := hJ.symm
  have z1 : ¬ 9223372036854775807 < V.size + P.size := by omega
  clear hk hz h1 h8 hX hV hP hPs hVs hPl hVl hJ hJb hJs
  go_enter Try.func24, Try.ntmps24
  go_wp2_with fail
  refine (c1).calls ?_
  go_wp2_with fail
  refine (c2).calls ?_
  go_wp2_with fail
  refine c4.calls H0.out ?_
  intro w1 h1
  have H1 := Lib.hid h1
  clear h1
  go_wp2_with fail
  refine c3.calls H1.out ?_
  intro w2 h2
  have H2 := Lib.hid h2
  clear h2
  go_wp2_with fail
  refine c5.calls H2.out ?_
  intro w3 h3
  have H3 := Lib.hid h3
  clear h3
  go_wp2_with fail
  go_ret2
  exact ⟨rfl, H3.out⟩
theorem wrap_more (key s : ByteArray) (hk : keyOk key) (h1 : 8 < s.size) (h8 : s.size ≤ 65535) (X : ByteArray) (hX : X = pwK key s) : Mak 24 #[.string key, .string s] (.tuple #[.string X, .int .i64 0]) := by
  intro w
  have H0 := Lib.hid (Since.refl w)
  have c1 := key_yes key hk
  obtain ⟨z, hz⟩ : ∃ z, z = ((s.size : Int) + 7) / 8 * 8 + 8 := ⟨_, rfl⟩
  have c2 := size_yes s.size (by omega) (by omega) z hz
  have t1 : (z == 0) = false := by rw [beq_eq_false_iff_ne]; omega
  obtain ⟨V, hV⟩ : ∃ V, V = valS s.size := ⟨_, rfl⟩
  have c3 := value_yes s.size (by omega) (by omega) V hV
  obtain ⟨P, hP⟩ : ∃ P, P = padS s := ⟨_, rfl⟩
  have c4 := pad8_m s (by omega) P hP
  have hPs : P.size = (s.size + 7) / 8 * 8 := by rw [hP, padS_size]
  have t2 : ((P.size : Int) == 8) = false := by rw [beq_eq_false_iff_ne]; omega
  have c5 := RefWrap.raw_yes key V P hk (by rw [hV, valS_size]) (by unfold fits; omega) X (by rw [hX, pwK, if_neg (by omega), hV, hP])
  clear hk hz h1 h8 hX hV hP hPs
  go_enter Try.func24, Try.ntmps24
  go_wp2_with fail
  refine (c1).calls ?_
  go_wp2_with fail
  refine (c2).calls ?_
  go_wp2_with fail
  refine c4.calls H0.out ?_
  intro w1 h1
  have H1 := Lib.hid h1
  clear h1
  go_wp2_with fail
  refine c3.calls H1.out ?_
  intro w2 h2
  have H2 := Lib.hid h2
  clear h2
  go_wp2_with fail
  refine c5.calls H2.out ?_
  intro w3 h3
  have H3 := Lib.hid h3
  clear h3
  go_wp2_with fail
  go_ret2
  exact ⟨rfl, H3.out⟩

/-- how many bytes a wrapped text may have -/
def sizeOk (n : Nat) : Prop := n % 8 = 0 ∧ 16 ≤ n ∧ n ≤ 65544
theorem unwrap_nokey (key s : ByteArray) (hm : key.size ≤ 1000000) (hk : ¬ keyOk key) : Ret 26 #[.string key, .string s] (.tuple #[.string ⟨#[]⟩, .int .i64 2]) := by
  intro w
  have c1 := key_no key hm hk
  clear hk
  go_enter Try.func26, Try.ntmps26
  go_wp2_with fail
  refine (c1).calls ?_
  go_wp2_with fail
  go_ret2
  exact ⟨rfl, rfl⟩
theorem unwrap_nosize (key s : ByteArray) (hk : keyOk key) (hm : s.size ≤ 1000000) (hs : ¬ sizeOk s.size) : Ret 26 #[.string key, .string s] (.tuple #[.string ⟨#[]⟩, .int .i64 4]) := by
  intro w
  have c1 := key_yes key hk
  have g3 : (s.size : Int).tmod 8 = (s.size : Int) % 8 := Int.tmod_eq_emod_of_nonneg (by omega)
  unfold sizeOk at hs
  by_cases h8 : s.size % 8 = 0
  · have t3 : (((s.size : Int) % 8) == 0) = true := by rw [beq_iff_eq]; omega
    have t4 : (((s.size : Int) % 8) != 0) = false := by rw [bne_eq_false_iff_eq]; omega
    have t5 : ((s.size : Int).tmod 8 == 0) = true := by rw [g3]; exact t3
    have t6 : ((s.size : Int).tmod 8 != 0) = false := by rw [g3]; exact t4
    by_cases h16 : s.size < 16
    · have t7 : decide ((s.size : Int) < 16) = true := decide_eq_true (by omega)
      clear hk hs g3 h8 h16
      go_enter Try.func26, Try.ntmps26
      go_wp2_with fail
      refine (c1).calls ?_
      go_wp2_with fail
      go_ret2
      exact ⟨rfl, rfl⟩
    · have t7 : decide ((s.size : Int) < 16) = false := decide_eq_false (by omega)
      have t8 : decide ((65544 : Int) < (s.size : Int)) = true := decide_eq_true (by omega)
      clear hk hs g3 h8 h16
      go_enter Try.func26, Try.ntmps26
      go_wp2_with fail
      refine (c1).calls ?_
      go_wp2_with fail
      go_ret2
      exact ⟨rfl, rfl⟩
  · have t3 : (((s.size : Int) % 8) == 0) = false := by rw [beq_eq_false_iff_ne]; omega
    have t4 : (((s.size : Int) % 8) != 0) = true := by rw [bne_iff_ne]; omega
    have t5 : ((s.size : Int).tmod 8 == 0) = false := by rw [g3]; exact t3
    have t6 : ((s.size : Int).tmod 8 != 0) = true := by rw [g3]; exact t4
    clear hk hs g3 h8
    go_enter Try.func26, Try.ntmps26
    go_wp2_with fail
    refine (c1).calls ?_
    go_wp2_with fail
    go_ret2
    exact ⟨rfl, rfl⟩

/-- value and padded text of c -/
def prt (key c : ByteArray) : ByteArray × ByteArray := if c.size = 16 then (hd8 (decK key c), bs ((decK key c).data.toList.drop 8)) else ((unrawK key c).1, bs (unrawK key c).2)
theorem prt_size (key c : ByteArray) (hs : sizeOk c.size) : (prt key c).1.size = 8 ∧ (prt key c).2.size = c.size - 8 := by
  unfold sizeOk at hs
  unfold prt
  by_cases h : c.size = 16
  · rw [if_pos h]
    have hd : (decK key c).data.toList.length = 16 := decK_size key c
    exact ⟨hd8_size _ hd, by rw [size_bs, List.length_drop, hd, h]⟩
  · rw [if_neg h]
    have h2 := unrawK_size key c (by unfold fits; omega)
    exact ⟨h2.1, by rw [size_bs, h2.2]⟩
/-- behind the parts: the number, and what stands behind it -/
theorem unwrap_no (key c V P : ByteArray) (hk : keyOk key) (hs : sizeOk c.size) (hp : (V, P) = prt key c) (hno : ∀ m, ¬ says V (P.size : Int) m) : Mak 26 #[.string key, .string c] (.tuple #[.string ⟨#[]⟩, .int .i64 7]) := by
  intro w
  have H0 := Lib.hid (Since.refl w)
  have c1 := key_yes key hk
  have hsz := prt_size key c hs
  rw [← hp] at hsz
  have hPs : P.size = c.size - 8 := hsz.2
  have hs9 := hs
  unfold sizeOk at hs9
  have g3 : (c.size : Int).tmod 8 = (c.size : Int) % 8 := Int.tmod_eq_emod_of_nonneg (by omega)
  have t3 : (((c.size : Int) % 8) == 0) = true := by rw [beq_iff_eq]; omega
  have t4 : (((c.size : Int) % 8) != 0) = false := by rw [bne_eq_false_iff_eq]; omega
  have t5 : ((c.size : Int).tmod 8 == 0) = true := by rw [g3]; exact t3
  have t6 : ((c.size : Int).tmod 8 != 0) = false := by rw [g3]; exact t4
  have t7 : decide ((c.size : Int) < 16) = false := decide_eq_false (by omega)
  have t8 : decide ((65544 : Int) < (c.size : Int)) = false := decide_eq_false (by omega)
  have c2 := length_any V (P.size : Int) (by omega) (by omega) (by omega) 0 false (Or.inr ⟨hno, rfl, rfl⟩)
  by_cases h : c.size = 16
  · have t9 : ((c.size : Int) == 16) = true := by rw [beq_iff_eq]; omega
    rw [prt, if_pos h] at hp
    obtain ⟨B, hB⟩ : ∃ B, B = decK key c := ⟨_, rfl⟩
    have hBs : B.size = 16 := by rw [hB]; exact decK_size key c
    have hBl : B.data.toList.length = 16 := hBs
    have c3 := RefAes.dec_yes key c hk h B hB
    rw [← hB] at hp
    have f1 : B.extract 0 8 = V := by
      apply ba_ext
      rw [ext_list, List.drop_zero, show V = hd8 B from congrArg Prod.fst hp, hd8, list_bs]
    have f2 : B.extract 8 B.size = P := by
      apply ba_ext
      rw [ext_list, List.take_of_length_le (by rw [List.length_drop]; omega), show P = bs (B.data.toList.drop 8) from congrArg Prod.snd hp, list_bs]
    have i1 : (8 : Int) ≤ (B.size : Int) := by omega
    clear hk hs hs9 hp hno hsz hPs g3 h hB hBs hBl
    go_enter Try.func26, Try.ntmps26
    go_wp2_with fail
    refine (c1).calls ?_
    go_wp2_with fail
    refine c3.calls H0.out ?_
    intro w1 h1
    have H1 := Lib.hid h1
    clear h1
    go_wp2_with fail
    go_region
    all_goals
      go_wp2_with fail
      have H1d := Lib.hid (Since.drew H1.out)
      refine c2.calls H1d.out ?_
      intro w2 h2
      have H2 := Lib.hid h2
      clear h2
      go_wp2_with fail
      go_ret2
      exact ⟨rfl, H2.out⟩
  · have t9 : ((c.size : Int) == 16) = false := by rw [beq_eq_false_iff_ne]; omega
    rw [prt, if_neg h] at hp
    have c3 := RefWrap.unraw_yes key c hk (by unfold fits; omega) V P (congrArg Prod.fst hp) (congrArg Prod.snd hp)
    clear hk hs hs9 hp hno hsz hPs g3 h
    go_enter Try.func26, Try.ntmps26
    go_wp2_with fail
    refine (c1).calls ?_
    go_wp2_with fail
    refine c3.calls H0.out ?_
    intro w1 h1
    have H1 := Lib.hid h1
    clear h1
    go_wp2_with fail
    refine c2.calls H1.out ?_
    intro w2 h2
    have H2 := Lib.hid h2
    clear h2
    go_wp2_with fail
    go_ret2
    exact ⟨rfl, H2.out⟩
set_option maxHeartbeats 1000000 in
theorem unwrap_some (key c V P : ByteArray) (hk : keyOk key) (hs : sizeOk c.size) (hp : (V, P) = prt key c) (m : Nat) (hm : says V (P.size : Int) m) (S : ByteArray) (hS : S = P.extract 0 m) (R : ByteArray) (e : Int)
    (hR : (∀ j, m ≤ j → j < P.size → P.data.toList.getD j 0 = 0) ∧ R = S ∧ e = 0 ∨ ¬ (∀ j, m ≤ j → j < P.size → P.data.toList.getD j 0 = 0) ∧ R = ⟨#[]⟩ ∧ e = 7) : Mak 26 #[.string key, .string c] (.tuple #[.string R, .int .i64 e]) := by
  intro w
  have H0 := Lib.hid (Since.refl w)
  have c1 := key_yes key hk
  have hsz := prt_size key c hs
  rw [← hp] at hsz
  have hPs : P.size = c.size - 8 := hsz.2
  have hs9 := hs
  unfold sizeOk at hs9
  have g3 : (c.size : Int).tmod 8 = (c.size : Int) % 8 := Int.tmod_eq_emod_of_nonneg (by omega)
  have t3 : (((c.size : Int) % 8) == 0) = true := by rw [beq_iff_eq]; omega
  have t4 : (((c.size : Int) % 8) != 0) = false := by rw [bne_eq_false_iff_eq]; omega
  have t5 : ((c.size : Int).tmod 8 == 0) = true := by rw [g3]; exact t3
  have t6 : ((c.size : Int).tmod 8 != 0) = false := by rw [g3]; exact t4
  have t7 : decide ((c.size : Int) < 16) = false := decide_eq_false (by omega)
  have t8 : decide ((65544 : Int) < (c.size : Int)) = false := decide_eq_false (by omega)
  have c2 := length_any V (P.size : Int) (by omega) (by omega) (by omega) (m : Int) true (Or.inl ⟨m, hm, rfl, rfl⟩)
  have hm1 := hm.2.2.2.2.1
  have HR := Lib.hid hR
  have f3 := hS.symm
  have i9 : P.size ≤ 70000 := by omega
  have i8 : (0 : Int) ≤ (m : Int) := by omega
  have i7 : m ≤ P.size := by omega
  clear hR hS hm
  by_cases h : c.size = 16
  · have t9 : ((c.size : Int) == 16) = true := by rw [beq_iff_eq]; omega
    rw [prt, if_pos h] at hp
    obtain ⟨B, hB⟩ : ∃ B, B = decK key c := ⟨_, rfl⟩
    have hBs : B.size = 16 := by rw [hB]; exact decK_size key c
    have hBl : B.data.toList.length = 16 := hBs
    have c3 := RefAes.dec_yes key c hk h B hB
    rw [← hB] at hp
    have f1 : B.extract 0 8 = V := by
      apply ba_ext
      rw [ext_list, List.drop_zero, show V = hd8 B from congrArg Prod.fst hp, hd8, list_bs]
    have f2 : B.extract 8 B.size = P := by
      apply ba_ext
      rw [ext_list, List.take_of_length_le (by rw [List.length_drop]; omega), show P = bs (B.data.toList.drop 8) from congrArg Prod.snd hp, list_bs]
    have i1 : (8 : Int) ≤ (B.size : Int) := by omega
    clear hk hs hs9 hp hsz hPs g3 h hB hBs hBl
    go_enter Try.func26, Try.ntmps26
    go_wp2_with fail
    refine (c1).calls ?_
    go_wp2_with fail
    refine c3.calls H0.out ?_
    intro w1 h1
    have H1 := Lib.hid h1
    clear h1
    go_wp2_with fail
    go_region
    all_goals
      go_wp2_with fail
      have H1d := Lib.hid (Since.drew H1.out)
      refine c2.calls H1d.out ?_
      intro w2 h2
      have H2 := Lib.hid h2
      clear h2
      go_wp2_with fail
      go_loopw [12] (fun i wr => ∃ k : Nat, k ≤ P.size ∧ m ≤ k ∧ i = .int .i64 (k : Int) ∧ Hid (∀ j, m ≤ j → j < k → P.data.toList.getD j 0 = 0) ∧ Hid (Since w wr)) (fun i _ => (P.size + 1 - intOf i).toNat)
      case atStart => exact ⟨m, by omega, Nat.le_refl _, rfl, Lib.hid (fun j h1 h2 => by omega), H2⟩
      case round =>
        obtain ⟨k, hk1, hk2, rfl, HN, HS⟩ := hrel
        by_cases hlt : k < P.size
        · have d1 : decide ((k : Int) < (P.size : Int)) = true := decide_eq_true (by omega)
          have e1 : IntKind.i64.wrap ((k : Int) + 1) = ((k + 1 : Nat) : Int) := by rw [IntWalk.i64_in _ (by omega)]; omega
          have hg : P.data.toList.getD k 0 = P[k] := Oct.getD_at P k hlt
          by_cases h0 : P[k].toNat = 0
          · have hb : ((P[k].toNat : Int) != 0) = false := by rw [h0]; rfl
            have hz : P[k] = 0 := UInt8.toNat_inj.1 h0
            have hN2 : ∀ j, m ≤ j → j < k + 1 → P.data.toList.getD j 0 = 0 := fun j h1 h2 => by
              by_cases h3 : j < k
              · exact HN.out j h1 h3
              · obtain rfl : j = k := by omega
                rw [hg, hz]
            have HN2 := Lib.hid hN2
            clear hN2
            have Hz := Lib.hid hz
            clear hz
            have H0 := Lib.hid h0
            clear h0
            have Hg := Lib.hid hg
            clear hg
            go_wp2_with fail
            go_roundw
            case rel => exact ⟨k + 1, by omega, by omega, rfl, HN2, HS⟩
            case measure => simp [intOf]; omega
          · have hb : ((P[k].toNat : Int) != 0) = true := by rw [bne_iff_ne]; omega
            obtain ⟨rfl, rfl⟩ : R = ⟨#[]⟩ ∧ e = 7 := by
              rcases HR.out with ⟨h, _⟩ | h
              · have h5 := h k hk2 hlt
                rw [hg] at h5
                exact absurd (by rw [h5]; rfl) h0
              · exact h.2
            have H0 := Lib.hid h0
            clear h0
            have Hg := Lib.hid hg
            clear hg
            go_wp2_with fail
            go_ret2
            exact ⟨rfl, HS.out⟩
        · have d1 : decide ((k : Int) < (P.size : Int)) = false := decide_eq_false (by omega)
          obtain ⟨rfl, rfl⟩ : R = S ∧ e = 0 := by
            rcases HR.out with h | ⟨h, _⟩
            · exact h.2
            · exact absurd (fun j h1 h2 => HN.out j h1 (by omega)) h
          go_wp2_with fail
          go_ret2
          exact ⟨rfl, HS.out⟩
  · have t9 : ((c.size : Int) == 16) = false := by rw [beq_eq_false_iff_ne]; omega
    rw [prt, if_neg h] at hp
    have c3 := RefWrap.unraw_yes key c hk (by unfold fits; omega) V P (congrArg Prod.fst hp) (congrArg Prod.snd hp)
    clear hk hs hs9 hp hsz hPs g3 h
    go_enter Try.func26, Try.ntmps26
    go_wp2_with fail
    refine (c1).calls ?_
    go_wp2_with fail
    refine c3.calls H0.out ?_
    intro w1 h1
    have H1 := Lib.hid h1
    clear h1
    go_wp2_with fail
    refine c2.calls H1.out ?_
    intro w2 h2
    have H2 := Lib.hid h2
    clear h2
    go_wp2_with fail
    go_loopw [12] (fun i wr => ∃ k : Nat, k ≤ P.size ∧ m ≤ k ∧ i = .int .i64 (k : Int) ∧ Hid (∀ j, m ≤ j → j < k → P.data.toList.getD j 0 = 0) ∧ Hid (Since w wr)) (fun i _ => (P.size + 1 - intOf i).toNat)
    case atStart => exact ⟨m, by omega, Nat.le_refl _, rfl, Lib.hid (fun j h1 h2 => by omega), H2⟩
    case round =>
      obtain ⟨k, hk1, hk2, rfl, HN, HS⟩ := hrel
      by_cases hlt : k < P.size
      · have d1 : decide ((k : Int) < (P.size : Int)) = true := decide_eq_true (by omega)
        have e1 : IntKind.i64.wrap ((k : Int) + 1) = ((k + 1 : Nat) : Int) := by rw [IntWalk.i64_in _ (by omega)]; omega
        have hg : P.data.toList.getD k 0 = P[k] := Oct.getD_at P k hlt
        by_cases h0 : P[k].toNat = 0
        · have hb : ((P[k].toNat : Int) != 0) = false := by rw [h0]; rfl
          have hz : P[k] = 0 := UInt8.toNat_inj.1 h0
          have hN2 : ∀ j, m ≤ j → j < k + 1 → P.data.toList.getD j 0 = 0 := fun j h1 h2 => by
            by_cases h3 : j < k
            · exact HN.out j h1 h3
            · obtain rfl : j = k := by omega
              rw [hg, hz]
          have HN2 := Lib.hid hN2
          clear hN2
          have Hz := Lib.hid hz
          clear hz
          have H0 := Lib.hid h0
          clear h0
          have Hg := Lib.hid hg
          clear hg
          go_wp2_with fail
          go_roundw
          case rel => exact ⟨k + 1, by omega, by omega, rfl, HN2, HS⟩
          case measure => simp [intOf]; omega
        · have hb : ((P[k].toNat : Int) != 0) = true := by rw [bne_iff_ne]; omega
          obtain ⟨rfl, rfl⟩ : R = ⟨#[]⟩ ∧ e = 7 := by
            rcases HR.out with ⟨h, _⟩ | h
            · have h5 := h k hk2 hlt
              rw [hg] at h5
              exact absurd (by rw [h5]; rfl) h0
            · exact h.2
          have H0 := Lib.hid h0
          clear h0
          have Hg := Lib.hid hg
          clear hg
          go_wp2_with fail
          go_ret2
          exact ⟨rfl, HS.out⟩
      · have d1 : decide ((k : Int) < (P.size : Int)) = false := decide_eq_false (by omega)
        obtain ⟨rfl, rfl⟩ : R = S ∧ e = 0 := by
          rcases HR.out with h | ⟨h, _⟩
          · exact h.2
          · exact absurd (fun j h1 h2 => HN.out j h1 (by omega)) h
        go_wp2_with fail
        go_ret2
        exact ⟨rfl, HS.out⟩
end RefPad
end Go.Proofs.Ytefoonegobcoaaa

/- padwrap: what is wrapped, unwrapped, is what it was; what is unwrapped, wrapped again. What the law calls awake. -/
namespace Go.Proofs.Ytefoonegobcoaaa
open Go.RowKit
namespace Pad
open Wrap Aes

theorem padS_list (s : ByteArray) : (padS s).data.toList = s.data.toList ++ List.replicate ((8 - s.size % 8) % 8) 0 := by unfold padS; rw [list_bs]
theorem padS_take (s : ByteArray) : (padS s).extract 0 s.size = s := by
  apply ba_ext
  have hl : s.data.toList.length = s.size := rfl
  rw [ext_list, List.drop_zero, padS_list, Nat.sub_zero, ← hl, List.take_left]
theorem padS_zero (s : ByteArray) (j : Nat) (h : s.size ≤ j) : (padS s).data.toList.getD j 0 = 0 := by
  have hl : s.data.toList.length = s.size := rfl
  rw [padS_list, List.getD_eq_getElem?_getD, List.getElem?_append_right (by omega), List.getElem?_replicate]
  split <;> rfl
/-- a text whose first m bytes are s and the others 0 -/
theorem padS_of (P : ByteArray) (m : Nat) (h1 : m ≤ P.size) (h2 : P.size < m + 8) (h8 : P.size % 8 = 0) (hz : ∀ j, m ≤ j → j < P.size → P.data.toList.getD j 0 = 0) : padS (P.extract 0 m) = P := by
  have hl : P.data.toList.length = P.size := rfl
  have hx : (P.extract 0 m).data.toList = P.data.toList.take m := by rw [ext_list, List.drop_zero, Nat.sub_zero]
  have hs : (P.extract 0 m).size = m := by
    show (P.extract 0 m).data.toList.length = m
    rw [hx, List.length_take]; omega
  apply ba_ext
  rw [padS_list, hx, hs]
  apply List.ext_getElem
  · rw [List.length_append, List.length_take, List.length_replicate]; omega
  · intro j hj1 hj2
    by_cases hj : j < m
    · rw [List.getElem_append_left (by rw [List.length_take]; omega), List.getElem_take]
    · rw [List.getElem_append_right (by rw [List.length_take]; omega), List.getElem_replicate]
      have h9 := hz j (by omega) (by omega)
      rw [getD_el _ _ hj2] at h9
      exact h9.symm
/-- the bytes behind: all 0, in the words of the program -/
theorem zero_words (P : ByteArray) (m : Nat) : (∀ c ∈ (P.extract m P.size).data.toList, c = 0) ↔ ∀ j, m ≤ j → j < P.size → P.data.toList.getD j 0 = 0 := by
  have hl : P.data.toList.length = P.size := rfl
  have hx : (P.extract m P.size).data.toList = P.data.toList.drop m := by rw [ext_list, List.take_of_length_le (by rw [List.length_drop]; omega)]
  rw [hx]
  constructor
  · intro h j h1 h2
    rw [getD_el _ _ (by omega)]
    refine h _ ?_
    have h3 : (P.data.toList.drop m)[j - m]'(by rw [List.length_drop]; omega) = P.data.toList[j]'(by omega) := by
      rw [List.getElem_drop]
      congr 1; omega
    rw [← h3]
    exact List.getElem_mem _
  · intro h c hc
    obtain ⟨i, hi, rfl⟩ := List.getElem_of_mem hc
    rw [List.length_drop] at hi
    have h9 := h (m + i) (by omega) (by omega)
    rw [getD_el _ _ (by omega)] at h9
    rw [List.getElem_drop]
    exact h9
theorem pwK_size (key s : ByteArray) (h1 : 1 ≤ s.size) (h2 : s.size ≤ 65535) : (pwK key s).size = (s.size + 7) / 8 * 8 + 8 := by
  unfold pwK
  by_cases h : s.size ≤ 8
  · rw [if_pos h, encK_size]; omega
  · rw [if_neg h, (rawK_parts key (valS s.size) (padS s) (valS_size _) (by unfold fits; rw [padS_size]; omega)).1, padS_size]
theorem pwK_ok (key s : ByteArray) (h1 : 1 ≤ s.size) (h2 : s.size ≤ 65535) : RefPad.sizeOk (pwK key s).size := by
  unfold RefPad.sizeOk
  rw [pwK_size key s h1 h2]; omega
theorem prt_pwK (key s : ByteArray) (h1 : 1 ≤ s.size) (h2 : s.size ≤ 65535) : RefPad.prt key (pwK key s) = (valS s.size, padS s) := by
  unfold RefPad.prt
  rw [pwK_size key s h1 h2]
  have hv : (valS s.size).data.toList.length = 8 := valS_size _
  have hp : (padS s).data.toList.length = (s.size + 7) / 8 * 8 := padS_size s
  unfold pwK
  by_cases h : s.size ≤ 8
  · rw [if_pos (by omega), if_pos h, decK_encK _ _ (by rw [size_bs, List.length_append]; omega)]
    refine Prod.ext (ba_ext ?_) (ba_ext ?_)
    · show (hd8 _).data.toList = (valS s.size).data.toList
      rw [hd8, list_bs, list_bs, ← hv, List.take_left]
    · show (bs _).data.toList = (padS s).data.toList
      rw [list_bs, list_bs, ← hv, List.drop_left]
  · rw [if_neg (by omega), if_neg h, unraw_raw key (valS s.size) (padS s) (valS_size _) (by unfold fits; rw [padS_size]; omega)]
    exact Prod.ext rfl (bs_list _)
theorem says_pad (s : ByteArray) (h1 : 1 ≤ s.size) (h2 : s.size ≤ 65535) : says (valS s.size) ((padS s).size : Int) s.size :=
  ⟨h1, h2, rfl, by rw [padS_size]; omega, by rw [padS_size]; omega, by rw [padS_size]; omega⟩
/-- what is unwrapped, wrapped again, is what it was -/
theorem pwK_again (key c V P : ByteArray) (hs : RefPad.sizeOk c.size) (hp : (V, P) = RefPad.prt key c) (m : Nat) (hm : says V (P.size : Int) m) (hz : ∀ j, m ≤ j → j < P.size → P.data.toList.getD j 0 = 0) : pwK key (P.extract 0 m) = c ∧ (P.extract 0 m).size = m := by
  have hsz := RefPad.prt_size key c hs
  rw [← hp] at hsz
  have hPs : P.size = c.size - 8 := hsz.2
  have hVs : V.size = 8 := hsz.1
  have hs9 := hs
  unfold RefPad.sizeOk at hs9
  obtain ⟨g1, g2, gv, g3, g4, g5⟩ := hm
  have hl : P.data.toList.length = P.size := rfl
  have hx : (P.extract 0 m).size = m := by
    show (P.extract 0 m).data.toList.length = m
    rw [ext_list, List.length_take, List.length_drop, hl]; omega
  have hpad := padS_of P m (by omega) (by omega) (by omega) hz
  refine ⟨?_, hx⟩
  unfold pwK
  rw [hx, hpad, ← gv]
  unfold RefPad.prt at hp
  by_cases h : c.size = 16
  · rw [if_pos h] at hp
    rw [if_pos (by omega), show V = hd8 (decK key c) from congrArg Prod.fst hp, show P = bs ((decK key c).data.toList.drop 8) from congrArg Prod.snd hp]
    have hb : bs ((hd8 (decK key c)).data.toList ++ (bs ((decK key c).data.toList.drop 8)).data.toList) = decK key c := by
      rw [list_bs]; exact bs_halves _
    show encK key (bs ((hd8 (decK key c)).data.toList ++ (bs ((decK key c).data.toList.drop 8)).data.toList)) = c
    rw [hb, encK_decK key c h]
  · rw [if_neg h] at hp
    rw [if_neg (by omega), show V = (unrawK key c).1 from congrArg Prod.fst hp, show P = bs (unrawK key c).2 from congrArg Prod.snd hp]
    exact raw_unraw key c (by unfold fits; omega)

/-- the parts, in the program -/
theorem parts_any (key c V P : ByteArray) (hk : keyOk key) (hs : RefPad.sizeOk c.size) (hp : (V, P) = RefPad.prt key c) : Mak 48 #[.string key, .string c] (.tuple #[.string V, .string P, .int .i64 0]) := by
  have hs9 := hs
  unfold RefPad.sizeOk at hs9
  unfold RefPad.prt at hp
  by_cases h : c.size = 16
  · rw [if_pos h] at hp
    exact parts_one key c h hk _ V P rfl (congrArg Prod.fst hp) (congrArg Prod.snd hp)
  · rw [if_neg h] at hp
    exact parts_more key c V P 0 h (by omega) (unraw_yes key c hk (by unfold fits; omega) V P (congrArg Prod.fst hp) (congrArg Prod.snd hp))
theorem parts_nosize (key c : ByteArray) (hk : keyOk key) (hm : c.size ≤ 1000000) (hs : ¬ RefPad.sizeOk c.size) : Mak 48 #[.string key, .string c] (.tuple #[.string ⟨#[]⟩, .string ⟨#[]⟩, .int .i64 4]) := by
  unfold RefPad.sizeOk at hs
  exact parts_more key c _ _ 4 (by omega) hm (unraw_nosize key c hk hm (by unfold fits; omega))
theorem parts_bad (key c : ByteArray) (hm : key.size ≤ 1000000) (hc : c.size ≤ 1000000) (hk : ¬ keyOk key) : Mak 48 #[.string key, .string c] (.tuple #[.string ⟨#[]⟩, .string ⟨#[]⟩, .int .i64 2]) := by
  by_cases h : c.size = 16
  · exact parts_nokey key c h hm hk
  · exact parts_more key c _ _ 2 h hc (unraw_nokey key c hm hk).mak
/-- what Unwrap answers, in both -/
theorem unwrap_good (key c V P : ByteArray) (hk : keyOk key) (hs : RefPad.sizeOk c.size) (hp : (V, P) = RefPad.prt key c) (m : Nat) (hm : says V (P.size : Int) m) (hz : ∀ j, m ≤ j → j < P.size → P.data.toList.getD j 0 = 0) (S : ByteArray) (hS : S = P.extract 0 m) :
    Mak 25 #[.string key, .string c] (.tuple #[.string S, .int .i64 0]) := by
  have hsz := RefPad.prt_size key c hs
  rw [← hp] at hsz
  have hPs : P.size = c.size - 8 := hsz.2
  unfold RefPad.sizeOk at hs
  exact unwrap_some key c V P (by omega) m hm _ rfl true (decide_eq_true ((zero_words P m).2 hz)).symm S hS (parts_any key c V P hk hs hp) S 0 (Or.inl ⟨rfl, rfl, rfl⟩)
theorem unwrap_sum (key c V P : ByteArray) (hk : keyOk key) (hs : RefPad.sizeOk c.size) (hp : (V, P) = RefPad.prt key c) (h : ∀ m, says V (P.size : Int) m → ¬ ∀ j, m ≤ j → j < P.size → P.data.toList.getD j 0 = 0) :
    Mak 25 #[.string key, .string c] (.tuple #[.string ⟨#[]⟩, .int .i64 7]) := by
  have hsz := RefPad.prt_size key c hs
  rw [← hp] at hsz
  have hPs : P.size = c.size - 8 := hsz.2
  have hVs : V.size = 8 := hsz.1
  have hs9 := hs
  unfold RefPad.sizeOk at hs9
  by_cases hno : ∀ m, ¬ says V (P.size : Int) m
  · exact unwrap_nolen key c V P (by omega) (by omega) (by omega) hno (parts_any key c V P hk hs hp)
  · obtain ⟨m, hm⟩ := Classical.not_forall.1 hno
    have hm := Classical.not_not.1 hm
    exact unwrap_some key c V P (by omega) m hm _ rfl false (decide_eq_false (fun h9 => h m hm ((zero_words P m).1 h9))).symm _ rfl (parts_any key c V P hk hs hp) _ 7 (Or.inr ⟨rfl, rfl, rfl⟩)
theorem unwrap_both (key c : ByteArray) (hm : key.size ≤ 1000000) (hc : c.size ≤ 1000000) : ∃ X e, Mak 25 #[.string key, .string c] (.tuple #[.string X, .int .i64 e]) ∧ Mak 26 #[.string key, .string c] (.tuple #[.string X, .int .i64 e]) := by
  by_cases hk : keyOk key
  · by_cases hs : RefPad.sizeOk c.size
    · obtain ⟨V, P, hp⟩ : ∃ V P, (V, P) = RefPad.prt key c := ⟨_, _, rfl⟩
      by_cases h : ∃ m, says V (P.size : Int) m ∧ ∀ j, m ≤ j → j < P.size → P.data.toList.getD j 0 = 0
      · obtain ⟨m, hm2, hz⟩ := h
        exact ⟨_, _, unwrap_good key c V P hk hs hp m hm2 hz _ rfl, RefPad.unwrap_some key c V P hk hs hp m hm2 _ rfl _ 0 (Or.inl ⟨hz, rfl, rfl⟩)⟩
      · refine ⟨_, _, unwrap_sum key c V P hk hs hp (fun m h1 h2 => h ⟨m, h1, h2⟩), ?_⟩
        by_cases hno : ∀ m, ¬ says V (P.size : Int) m
        · exact RefPad.unwrap_no key c V P hk hs hp hno
        · obtain ⟨m, hm2⟩ := Classical.not_forall.1 hno
          have hm2 := Classical.not_not.1 hm2
          exact RefPad.unwrap_some key c V P hk hs hp m hm2 _ rfl _ 7 (Or.inr ⟨fun h2 => h ⟨m, hm2, h2⟩, rfl, rfl⟩)
    · exact ⟨_, _, unwrap_bad key c 4 rfl (parts_nosize key c hk hc hs), (RefPad.unwrap_nosize key c hk hc hs).mak⟩
  · exact ⟨_, _, unwrap_bad key c 2 rfl (parts_bad key c hm hc hk), (RefPad.unwrap_nokey key c hm hk).mak⟩
theorem wrap_yes (key s : ByteArray) (hk : keyOk key) (h1 : 1 ≤ s.size) (h2 : s.size ≤ 65535) (X : ByteArray) (hX : X = pwK key s) : Mak 23 #[.string key, .string s] (.tuple #[.string X, .int .i64 0]) := by
  by_cases h : s.size ≤ 8
  · exact wrap_one key s hk h1 h X hX
  · exact wrap_more key s hk (by omega) h2 X hX
theorem wrap_both (key s : ByteArray) (hm : key.size ≤ 1000000) : ∃ X e, Mak 23 #[.string key, .string s] (.tuple #[.string X, .int .i64 e]) ∧ Mak 24 #[.string key, .string s] (.tuple #[.string X, .int .i64 e]) := by
  by_cases hk : keyOk key
  · by_cases hs : 1 ≤ s.size ∧ s.size ≤ 65535
    · refine ⟨_, _, wrap_yes key s hk hs.1 hs.2 _ rfl, ?_⟩
      by_cases h : s.size ≤ 8
      · exact RefPad.wrap_one key s hk hs.1 h _ rfl
      · exact RefPad.wrap_more key s hk (by omega) hs.2 _ rfl
    · exact ⟨_, _, wrap_nosize key s hk (by omega), (RefPad.wrap_nosize key s hk (by omega)).mak⟩
  · exact ⟨_, _, (wrap_nokey key s hm hk).mak, (RefPad.wrap_nokey key s hm hk).mak⟩
theorem value_both (n : Int) : ∃ V, Mak 29 #[.int .i64 n] (.string V) ∧ Mak 30 #[.int .i64 n] (.string V) := by
  by_cases h : 1 ≤ n ∧ n ≤ 65535
  · obtain ⟨m, rfl⟩ := Int.eq_ofNat_of_zero_le (show 0 ≤ n by omega)
    exact ⟨_, value_yes m (by omega) (by omega) _ rfl, RefPad.value_yes m (by omega) (by omega) _ rfl⟩
  · exact ⟨_, (value_no n (by omega)).mak, (RefPad.value_no n (by omega)).mak⟩
theorem size_both (n : Int) : ∃ x, Ret 31 #[.int .i64 n] (.int .i64 x) ∧ Ret 32 #[.int .i64 n] (.int .i64 x) := by
  by_cases h : 1 ≤ n ∧ n ≤ 65535
  · obtain ⟨m, rfl⟩ := Int.eq_ofNat_of_zero_le (show 0 ≤ n by omega)
    exact ⟨_, size_yes m (by omega) (by omega) _ rfl, RefPad.size_yes m (by omega) (by omega) _ rfl⟩
  · exact ⟨_, size_no n (by omega), RefPad.size_no n (by omega)⟩
theorem length_least (v : ByteArray) : Ret 28 #[.string v, .int .i64 (-9223372036854775808)] (.tuple #[.int .i64 0, .bool false]) := by
  intro w
  go_enter Try.func28, Try.ntmps28
  go_wp2_with fail
  go_loopw [6] (fun i wr => i = .int .i64 9223372036854775801 ∧ wr = w) (fun _ _ => 0)
  case atStart => exact ⟨congrArg _ (by unfold wrap64; omega), rfl⟩
  case round =>
    obtain ⟨rfl, rfl⟩ := hrel
    go_wp2_with fail
    go_ret2
    exact ⟨rfl, rfl⟩
theorem length_both (v : ByteArray) (n : Int) (hm : v.size ≤ 1000000) (lo : -9223372036854775808 ≤ n) (hi : n ≤ 9223372036854775807) : ∃ x q, Mak 27 #[.string v, .int .i64 n] (.tuple #[.int .i64 x, .bool q]) ∧ Mak 28 #[.string v, .int .i64 n] (.tuple #[.int .i64 x, .bool q]) := by
  by_cases h : ∃ m, says v n m
  · obtain ⟨m, hs⟩ := h
    have hs9 := hs
    obtain ⟨g1, g2, gv, g3, g4, g5⟩ := hs9
    exact ⟨_, _, length_yes v n m hs, RefPad.length_any v n g3 (by omega) (by omega) _ _ (Or.inl ⟨m, hs, rfl, rfl⟩)⟩
  · have h2 : ∀ m, ¬ says v n m := fun m h3 => h ⟨m, h3⟩
    refine ⟨_, _, length_no v n hm h2, ?_⟩
    by_cases h8 : n % 8 = 0
    · by_cases hl : n = -9223372036854775808
      · rw [hl]; exact (length_least v).mak
      · exact RefPad.length_any v n h8 (by omega) (by omega) _ _ (Or.inr ⟨h2, rfl, rfl⟩)
    · exact (RefPad.length_odd v n h8).mak

def rfcK : ByteArray := ⟨#[88, 64, 223, 110, 41, 176, 42, 241, 171, 73, 59, 112, 91, 241, 110, 161, 174, 131, 56, 244, 220, 193, 118, 168]⟩
def rfcS : ByteArray := ⟨#[70, 111, 114, 80, 97, 115, 105]⟩
def rfcC : ByteArray := ⟨#[175, 190, 176, 240, 125, 251, 245, 65, 146, 0, 242, 204, 181, 11, 178, 79]⟩
theorem rfc : rfcC = pwK rfcK rfcS := by
  apply ba_ext
  decide +kernel
set_option maxHeartbeats 1000000 in
theorem awake_mak : Mak 22 #[] (.bool true) := by
  intro w
  have H0 := Lib.hid (Since.refl w)
  have c1 := wrap_yes rfcK rfcS (Or.inr (Or.inl rfl)) (by decide) (by decide) rfcC rfc
  have c2 := (size_yes 9 (by decide) (by decide) 24 (by decide)).mak
  unfold rfcK rfcS rfcC at c1
  go_enter Try.func22, Try.ntmps22
  go_wp2_with fail
  refine c1.calls H0.out ?_
  intro w1 h1
  have H1 := Lib.hid h1
  clear h1
  go_wp2_with fail
  refine c2.calls H1.out ?_
  intro w2 h2
  have H2 := Lib.hid h2
  clear h2
  go_wp2_with fail
  go_ret
  exact ⟨rfl, H2.out⟩
end Pad
end Go.Proofs.Ytefoonegobcoaaa
