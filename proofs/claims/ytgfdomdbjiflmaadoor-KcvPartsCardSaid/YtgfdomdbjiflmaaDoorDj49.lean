/- Joined texts. -/
-- PACK: YtgfdomdbjiflmaaDoorKcv2 YtgfdomdbjiflmaaDoorRefKcv
import Derived.Test.YtgfdomdbjiflmaaDoorDj48
import Derived.Test.YtgfdomdbjiflmaaDoorDj39
import Derived.Test.YtgfdomdbjiflmaaDoorDj47
import Derived.Test.YtgfdomdbjiflmaaDoorDj28
import Derived.Test.YtgfdomdbjiflmaaDoorDj19
import Derived.Test.YtgfdomdbjiflmaaDoorDj46

/- Package kcv: check values. -/
namespace Go.Proofs.YtgfdomdbjiflmaaDoor
open Go.RowKit
namespace Kcv
open Att Kind Rec Rnd Aes
def aesB (K : Int) : Bool := (rowOf K).2.2.1 == [65]
def Z16 : ByteArray := ⟨#[0, 0, 0, 0, 0, 0, 0, 0, 0, 0, 0, 0, 0, 0, 0, 0]⟩
/-- a kind's number as a byte -/
def kb (K : Int) : ByteArray := ⟨#[UInt8.ofNat K.toNat]⟩
def ofX (K : Int) (k : ByteArray) : ByteArray := if aesB K then Cmac.tagK k Z16 else Cmac.tagK Z16 (kb K ++ k)
def ofS (K : Int) (k : ByteArray) : ByteArray := (ofX K k).extract 0 5
def leS (K : Int) (k : ByteArray) : ByteArray := if aesB K then (encK k Z16).extract 0 3 else ⟨#[]⟩
theorem ofX_size (K : Int) (k : ByteArray) : (ofX K k).size = 16 := by unfold ofX; split <;> exact Cmac.tagK_size _ _
theorem ofS_size (K : Int) (k : ByteArray) : (ofS K k).size = 5 := by unfold ofS; rw [ByteArray.size_extract, ofX_size]; rfl
/-- kinds that there are -/
theorem kind_in {K : Int} {k : ByteArray} (h : chkE (rowOf K) k.data.toList = 0) : 1 ≤ K ∧ K ≤ 11 ∧ (aesB K = true → keyOk k) := by
  unfold chkE at h
  split at h
  · cases h
  · split at h
    · cases h
    · rename_i h1 h2
      have hl : k.data.toList.length = k.size := rfl
      rw [hl] at h2
      rcases row_cases K with g | rfl | rfl | rfl | rfl | rfl | rfl | rfl | rfl | rfl | rfl | rfl
      · rw [rowOf_out K g] at h1; exact absurd rfl h1
      · have e : (rowOf 1).2.1 = 16 := by decide
        rw [e] at h2; exact ⟨by decide, by decide, fun _ => .inl (by omega)⟩
      · have e : (rowOf 2).2.1 = 24 := by decide
        rw [e] at h2; exact ⟨by decide, by decide, fun _ => .inr (.inl (by omega))⟩
      · have e : (rowOf 3).2.1 = 32 := by decide
        rw [e] at h2; exact ⟨by decide, by decide, fun _ => .inr (.inr (by omega))⟩
      all_goals exact ⟨by decide, by decide, fun h => absurd h (by decide)⟩
theorem rec_ok {K : Int} {k : ByteArray} {L : List A2} (h : recE K k L = 0) : chkE (rowOf K) k.data.toList = 0 ∧ attE L = 0 := by
  unfold recE at h
  split at h
  · rename_i h1; exact absurd h h1
  · rename_i h1; exact ⟨by omega, h⟩
theorem z16_key : keyOk Z16 := .inl rfl
theorem cut_ret (X : ByteArray) (n : Nat) (h1 : 1 ≤ n) (hx : X.size = 16) (hn : n ≤ 16) : Ret 61 #[.string X, .int .i64 0, .int .i64 (n : Int)] (.string (X.extract 0 n)) := fun w => by
  have h := Oct.cut_yes X 0 n w (by omega) (by omega) (by omega) h1
  rw [List.drop_zero] at h
  have e : bs (X.data.toList.take n) = X.extract 0 n := by
    apply ba_ext
    rw [list_bs, ByteArray.data_extract, Array.toList_extract, List.extract_eq_take_drop]
    simp
  rw [e] at h
  exact h
theorem put_kb (K : Int) (h1 : 1 ≤ K) (h2 : K ≤ 11) : Mak 58 #[.int .u64 K, .int .i64 1] (.string (kb K)) := fun w => by
  have h := Oct.put_mid K 1 w (by omega) (by omega) (by decide) (by decide)
  have e : strOfNums (Oct.putL K 1) = kb K := by
    have := Sched.put1 K.toNat (by omega)
    rw [show ((K.toNat : Nat) : Int) = K by omega] at this
    exact this
  rw [e] at h; exact h
set_option maxRecDepth 100000 in
theorem aes_rec (K : Int) (k u m v e : ByteArray) (L : List A2) : RdR 59 L (fun x => #[rv K k u m v e x]) (.bool (aesB K)) := by
  have c1 := KMk.t2 (letter_k K _ rfl)
  obtain ⟨X, hX⟩ : ∃ X, X = bs (rowOf K).2.2.1 := ⟨_, rfl⟩
  have t1 : (X.toList == [65]) = aesB K := by
    have e : X.toList = (rowOf K).2.2.1 := by rw [hX]; simp [ByteArray.toList_eq, list_bs]
    rw [e]; rfl
  rw [← hX] at c1
  generalize aesB K = B at t1 ⊢
  clear hX
  intro w x hT hx
  obtain ⟨A, q, rfl, hq1, hq2⟩ := hx.slice
  have hp := Lib.hid (hb_new w Tab2 hT #[.int .i64 K, .string k, .slice A L.length q, .string u, .string m, .string v, .string e] 26)
  have HX := Lib.hid (hx.since hp.out.since)
  have HS := Lib.hid hp.out.since
  obtain ⟨_, m0, m1, m2, m3, m4, m5, m6⟩ := hb7 hp
  clear hx hT
  go_enter Tryd.func59, Tryd.ntmps59
  go_wp2_with fail
  clear m0 m1 m2 m3 m4 m5 m6
  refine (c1.calls0 hp.out.tabs) ?_
  intro w1 h1
  replace HS := Lib.hid (HS.out.step (by first | exact h1 | exact (Since.alloc (Since.refl _) _).step h1 | exact (Since.alloc (Since.alloc (Since.refl _) _) _).step h1 | exact (Since.drew (Since.refl _)).step h1 | exact (Since.alloc (Since.alloc (Since.alloc (Since.refl _) _) _) _).step h1))
  clear h1
  go_wp2_with fail
  go_ret
  exact ⟨rfl, HS.out⟩
set_option maxRecDepth 100000 in
theorem of_bad (K : Int) (k u m v e : ByteArray) (L : List A2) (E : Int) (hE : (E != 0) = true) (c1 : RdR 56 L (fun x => #[rv K k u m v e x]) (.int .i64 E)) : RdR 34 L (fun x => #[rv K k u m v e x]) (.tuple #[.string ⟨#[]⟩, .int .i64 E]) := by
  intro w x hT hx
  obtain ⟨A, q, rfl, hq1, hq2⟩ := hx.slice
  have hp := Lib.hid (hb_new w Tab2 hT #[.int .i64 K, .string k, .slice A L.length q, .string u, .string m, .string v, .string e] 26)
  have HX := Lib.hid (hx.since hp.out.since)
  have HS := Lib.hid hp.out.since
  obtain ⟨_, m0, m1, m2, m3, m4, m5, m6⟩ := hb7 hp
  clear hx hT
  go_enter Tryd.func34, Tryd.ntmps34
  go_wp2_with fail
  clear m0 m1 m2 m3 m4 m5 m6
  refine (c1.calls0 hp.out.tabs HX.out) ?_
  intro w1 h1
  replace HS := Lib.hid (HS.out.step (by first | exact h1 | exact (Since.alloc (Since.refl _) _).step h1 | exact (Since.alloc (Since.alloc (Since.refl _) _) _).step h1 | exact (Since.drew (Since.refl _)).step h1 | exact (Since.alloc (Since.alloc (Since.alloc (Since.refl _) _) _) _).step h1))
  clear h1
  go_wp2_with fail
  go_ret2
  exact ⟨rfl, HS.out⟩
set_option maxRecDepth 100000 in
theorem le_bad (K : Int) (k u m v e : ByteArray) (L : List A2) (E : Int) (hE : (E != 0) = true) (c1 : RdR 56 L (fun x => #[rv K k u m v e x]) (.int .i64 E)) : RdR 36 L (fun x => #[rv K k u m v e x]) (.tuple #[.string ⟨#[]⟩, .int .i64 E]) := by
  intro w x hT hx
  obtain ⟨A, q, rfl, hq1, hq2⟩ := hx.slice
  have hp := Lib.hid (hb_new w Tab2 hT #[.int .i64 K, .string k, .slice A L.length q, .string u, .string m, .string v, .string e] 26)
  have HX := Lib.hid (hx.since hp.out.since)
  have HS := Lib.hid hp.out.since
  obtain ⟨_, m0, m1, m2, m3, m4, m5, m6⟩ := hb7 hp
  clear hx hT
  go_enter Tryd.func36, Tryd.ntmps36
  go_wp2_with fail
  clear m0 m1 m2 m3 m4 m5 m6
  refine (c1.calls0 hp.out.tabs HX.out) ?_
  intro w1 h1
  replace HS := Lib.hid (HS.out.step (by first | exact h1 | exact (Since.alloc (Since.refl _) _).step h1 | exact (Since.alloc (Since.alloc (Since.refl _) _) _).step h1 | exact (Since.drew (Since.refl _)).step h1 | exact (Since.alloc (Since.alloc (Since.alloc (Since.refl _) _) _) _).step h1))
  clear h1
  go_wp2_with fail
  go_ret2
  exact ⟨rfl, HS.out⟩
set_option maxRecDepth 100000 in
theorem le_kind (K : Int) (k u m v e : ByteArray) (L : List A2) (c1 : RdR 56 L (fun x => #[rv K k u m v e x]) (.int .i64 0)) (c2 : RdR 59 L (fun x => #[rv K k u m v e x]) (.bool false)) : RdR 36 L (fun x => #[rv K k u m v e x]) (.tuple #[.string ⟨#[]⟩, .int .i64 8]) := by
  intro w x hT hx
  obtain ⟨A, q, rfl, hq1, hq2⟩ := hx.slice
  have hp := Lib.hid (hb_new w Tab2 hT #[.int .i64 K, .string k, .slice A L.length q, .string u, .string m, .string v, .string e] 26)
  have HX := Lib.hid (hx.since hp.out.since)
  have HS := Lib.hid hp.out.since
  obtain ⟨_, m0, m1, m2, m3, m4, m5, m6⟩ := hb7 hp
  clear hx hT
  go_enter Tryd.func36, Tryd.ntmps36
  go_wp2_with fail
  clear m0 m1 m2 m3 m4 m5 m6
  refine (c1.calls0 hp.out.tabs HX.out) ?_
  intro w1 h1
  replace hp := Lib.hid (hp.out.step (by first | exact h1 | exact (Since.alloc (Since.refl _) _).step h1 | exact (Since.alloc (Since.alloc (Since.refl _) _) _).step h1 | exact (Since.drew (Since.refl _)).step h1 | exact (Since.alloc (Since.alloc (Since.alloc (Since.refl _) _) _) _).step h1))
  replace HX := Lib.hid (HX.out.since (by first | exact h1 | exact (Since.alloc (Since.refl _) _).step h1 | exact (Since.alloc (Since.alloc (Since.refl _) _) _).step h1 | exact (Since.drew (Since.refl _)).step h1 | exact (Since.alloc (Since.alloc (Since.alloc (Since.refl _) _) _) _).step h1))
  replace HS := Lib.hid (HS.out.step (by first | exact h1 | exact (Since.alloc (Since.refl _) _).step h1 | exact (Since.alloc (Since.alloc (Since.refl _) _) _).step h1 | exact (Since.drew (Since.refl _)).step h1 | exact (Since.alloc (Since.alloc (Since.alloc (Since.refl _) _) _) _).step h1))
  clear h1
  obtain ⟨_, m0, m1, m2, m3, m4, m5, m6⟩ := hb7 hp
  go_wp2_with fail
  clear m0 m1 m2 m3 m4 m5 m6
  refine (c2.calls0 hp.out.tabs HX.out) ?_
  intro w2 h2
  replace HS := Lib.hid (HS.out.step (by first | exact h2 | exact (Since.alloc (Since.refl _) _).step h2 | exact (Since.alloc (Since.alloc (Since.refl _) _) _).step h2 | exact (Since.drew (Since.refl _)).step h2 | exact (Since.alloc (Since.alloc (Since.alloc (Since.refl _) _) _) _).step h2))
  clear h2
  go_wp2_with fail
  go_ret2
  exact ⟨rfl, HS.out⟩
set_option maxRecDepth 100000 in
theorem le_ok (K : Int) (k u m v e : ByteArray) (L : List A2) (X Y : ByteArray) (c1 : RdR 56 L (fun x => #[rv K k u m v e x]) (.int .i64 0)) (c2 : RdR 59 L (fun x => #[rv K k u m v e x]) (.bool true))
    (c3 : Mak 63 #[.string k, .string ⟨#[0, 0, 0, 0, 0, 0, 0, 0, 0, 0, 0, 0, 0, 0, 0, 0]⟩] (.tuple #[.string X, .int .i64 0])) (c4 : Ret 61 #[.string X, .int .i64 0, .int .i64 3] (.string Y)) : RdR 36 L (fun x => #[rv K k u m v e x]) (.tuple #[.string Y, .int .i64 0]) := by
  intro w x hT hx
  obtain ⟨A, q, rfl, hq1, hq2⟩ := hx.slice
  have hp := Lib.hid (hb_new w Tab2 hT #[.int .i64 K, .string k, .slice A L.length q, .string u, .string m, .string v, .string e] 26)
  have HX := Lib.hid (hx.since hp.out.since)
  have HS := Lib.hid hp.out.since
  obtain ⟨_, m0, m1, m2, m3, m4, m5, m6⟩ := hb7 hp
  clear hx hT
  go_enter Tryd.func36, Tryd.ntmps36
  go_wp2_with fail
  clear m0 m1 m2 m3 m4 m5 m6
  refine (c1.calls0 hp.out.tabs HX.out) ?_
  intro w1 h1
  replace hp := Lib.hid (hp.out.step (by first | exact h1 | exact (Since.alloc (Since.refl _) _).step h1 | exact (Since.alloc (Since.alloc (Since.refl _) _) _).step h1 | exact (Since.drew (Since.refl _)).step h1 | exact (Since.alloc (Since.alloc (Since.alloc (Since.refl _) _) _) _).step h1))
  replace HX := Lib.hid (HX.out.since (by first | exact h1 | exact (Since.alloc (Since.refl _) _).step h1 | exact (Since.alloc (Since.alloc (Since.refl _) _) _).step h1 | exact (Since.drew (Since.refl _)).step h1 | exact (Since.alloc (Since.alloc (Since.alloc (Since.refl _) _) _) _).step h1))
  replace HS := Lib.hid (HS.out.step (by first | exact h1 | exact (Since.alloc (Since.refl _) _).step h1 | exact (Since.alloc (Since.alloc (Since.refl _) _) _).step h1 | exact (Since.drew (Since.refl _)).step h1 | exact (Since.alloc (Since.alloc (Since.alloc (Since.refl _) _) _) _).step h1))
  clear h1
  obtain ⟨_, m0, m1, m2, m3, m4, m5, m6⟩ := hb7 hp
  go_wp2_with fail
  clear m0 m1 m2 m3 m4 m5 m6
  refine (c2.calls0 hp.out.tabs HX.out) ?_
  intro w2 h2
  replace hp := Lib.hid (hp.out.step (by first | exact h2 | exact (Since.alloc (Since.refl _) _).step h2 | exact (Since.alloc (Since.alloc (Since.refl _) _) _).step h2 | exact (Since.drew (Since.refl _)).step h2 | exact (Since.alloc (Since.alloc (Since.alloc (Since.refl _) _) _) _).step h2))
  replace HX := Lib.hid (HX.out.since (by first | exact h2 | exact (Since.alloc (Since.refl _) _).step h2 | exact (Since.alloc (Since.alloc (Since.refl _) _) _).step h2 | exact (Since.drew (Since.refl _)).step h2 | exact (Since.alloc (Since.alloc (Since.alloc (Since.refl _) _) _) _).step h2))
  replace HS := Lib.hid (HS.out.step (by first | exact h2 | exact (Since.alloc (Since.refl _) _).step h2 | exact (Since.alloc (Since.alloc (Since.refl _) _) _).step h2 | exact (Since.drew (Since.refl _)).step h2 | exact (Since.alloc (Since.alloc (Since.alloc (Since.refl _) _) _) _).step h2))
  clear h2
  obtain ⟨_, m0, m1, m2, m3, m4, m5, m6⟩ := hb7 hp
  go_wp2_with fail
  clear m0 m1 m2 m3 m4 m5 m6
  refine (c3.calls0) ?_
  intro w3 h3
  replace HS := Lib.hid (HS.out.step (by first | exact h3 | exact (Since.alloc (Since.refl _) _).step h3 | exact (Since.alloc (Since.alloc (Since.refl _) _) _).step h3 | exact (Since.drew (Since.refl _)).step h3 | exact (Since.alloc (Since.alloc (Since.alloc (Since.refl _) _) _) _).step h3))
  clear h3
  go_wp2_with fail
  refine (c4).calls ?_
  go_wp2_with fail
  go_ret2
  exact ⟨rfl, HS.out⟩
theorem hb7r {w : World} {K : World → Prop} {g : Nat} {a b c d e f k : Value} {W : World} (h : Hid (HB w K g #[a, b, c, d, e, f, k] W)) : Hid (HB w K g #[a, b, c, d, e, f, k] W) ∧ W.cell? ⟨g, 0, none⟩ = some a ∧ W.cell? ⟨g, 1, none⟩ = some b :=
  ⟨h, h.out.cell 0 _ rfl, h.out.cell 1 _ rfl⟩
set_option maxRecDepth 100000 in
set_option maxHeartbeats 8000000 in
theorem of_aes (K : Int) (hK : 1 ≤ K ∧ K ≤ 11) (k u m v e : ByteArray) (_hk : k.size ≤ 100000) (L : List A2) (B T X Y : ByteArray) (hT : T = bs (Oct.cat [B, k])) (hTs : T.size ≤ 200000) (c1 : RdR 56 L (fun x => #[rv K k u m v e x]) (.int .i64 0))
    (c2 : Mak 58 #[.int .u64 K, .int .i64 1] (.string B)) (c3 : RdR 59 L (fun x => #[rv K k u m v e x]) (.bool true))
    (c4 : Mak 60 #[.string k, .string ⟨#[0, 0, 0, 0, 0, 0, 0, 0, 0, 0, 0, 0, 0, 0, 0, 0]⟩] (.tuple #[.string X, .int .i64 0])) (c5 : Ret 61 #[.string X, .int .i64 0, .int .i64 5] (.string Y)) : RdR 34 L (fun x => #[rv K k u m v e x]) (.tuple #[.string Y, .int .i64 0]) := by
  have HJ := Lib.hid (fun W => Oct.join_lit W [B, k] 2 rfl #[.string B, .string k] rfl T hT (by omega) (by decide))
  have e1 : IntKind.u64.wrap K = K := IntWalk.u64_in _ (by omega)
  obtain ⟨g1, g2⟩ := hK
  clear hT
  intro w x hT hx
  have HX9 := Lib.hid hx
  obtain ⟨A, q, rfl, hq1, hq2⟩ := hx.slice
  have hp := Lib.hid (hb_new w Tab2 hT #[.int .i64 K, .string k, .slice A L.length q, .string u, .string m, .string v, .string e] 26)
  have HX := Lib.hid (hx.since hp.out.since)
  have HS := Lib.hid hp.out.since
  obtain ⟨_, m0, m1, m2, m3, m4, m5, m6⟩ := hb7 hp
  clear hx hT
  go_enter Tryd.func34, Tryd.ntmps34
  go_wp2_with fail
  clear m0 m1 m2 m3 m4 m5 m6
  refine (c1.calls0 hp.out.tabs HX.out) ?_
  intro w1 h1
  replace hp := Lib.hid (hp.out.step (by first | exact h1 | exact (Since.alloc (Since.refl _) _).step h1 | exact (Since.alloc (Since.alloc (Since.refl _) _) _).step h1 | exact (Since.drew (Since.refl _)).step h1 | exact (Since.alloc (Since.alloc (Since.alloc (Since.refl _) _) _) _).step h1))
  replace HX := Lib.hid (HX.out.since (by first | exact h1 | exact (Since.alloc (Since.refl _) _).step h1 | exact (Since.alloc (Since.alloc (Since.refl _) _) _).step h1 | exact (Since.drew (Since.refl _)).step h1 | exact (Since.alloc (Since.alloc (Since.alloc (Since.refl _) _) _) _).step h1))
  replace HS := Lib.hid (HS.out.step (by first | exact h1 | exact (Since.alloc (Since.refl _) _).step h1 | exact (Since.alloc (Since.alloc (Since.refl _) _) _).step h1 | exact (Since.drew (Since.refl _)).step h1 | exact (Since.alloc (Since.alloc (Since.alloc (Since.refl _) _) _) _).step h1))
  clear h1
  obtain ⟨_, m0, m1, m2, m3, m4, m5, m6⟩ := hb7 hp
  clear m2 m3 m4 m5 m6
  have HX0 := Lib.hid (show ∀ W, HB w Tab2 w.heap.size #[.int .i64 K, .string k, .slice A L.length q, .string u, .string m, .string v, .string e] W → AttsS W (.slice A L.length q) L from fun W h => HX9.out.since h.since)
  clear HX HS HX9
  go_wp2_with fail
  go_region_held3 (fun W => Hid (HB w Tab2 w.heap.size #[.int .i64 K, .string k, .slice A L.length q, .string u, .string m, .string v, .string e] W) ∧ W.cell? ⟨w.heap.size, 0, none⟩ = some (.int .i64 K) ∧ W.cell? ⟨w.heap.size, 1, none⟩ = some (.string k))
    (first | exact hb7r (by assumption) | exact hb7r (hbdrew (by assumption)) | exact hb7r (hbal (by assumption)) | exact hb7r (hbal (hbdrew (by assumption))) | exact hb7r (hbdrew (hbal (by assumption))))
    (first
      | (go_at_call 58; with_reducible refine c2.calls0 ?_; intro wy hby; have hpy := hbstep hby (by first | assumption | exact hbdrew (by assumption)); clear hby)
      | (go_at_call 57; with_reducible refine (HJ.out _).mono ?_; rintro e wy ⟨rfl, hby⟩; have hpy := hbstep hby (by first | assumption | exact hbdrew (by assumption) | exact hbal (by assumption) | exact hbal (hbdrew (by assumption))); clear hby))
  all_goals
    have hp9 : Hid (HB w Tab2 w.heap.size #[.int .i64 K, .string k, .slice A L.length q, .string u, .string m, .string v, .string e] _) := (by first | assumption | exact hbdrew (by assumption))
    clear m0 m1
    obtain ⟨_, m0, m1, m2, m3, m4, m5, m6⟩ := hb7 hp9
    go_wp2_with fail
    refine c3.calls0 hp9.out.tabs (HX0.out _ hp9.out) ?_
    intro w5 h5
    have hpa := Lib.hid (hp9.out.step h5)
    clear m0 m1 m2 m3 m4 m5 m6 h5
    obtain ⟨_, m0, m1, m2, m3, m4, m5, m6⟩ := hb7 hpa
    go_wp2_with fail
    refine c4.calls0 ?_
    intro w6 h6
    have HS := Lib.hid (hpa.out.since.step h6)
    clear m0 m1 m2 m3 m4 m5 m6 h6
    go_wp2_with fail
    refine (c5).calls ?_
    go_wp2_with fail
    go_ret2
    exact ⟨rfl, HS.out⟩
set_option maxRecDepth 100000 in
set_option maxHeartbeats 8000000 in
theorem of_oth (K : Int) (hK : 1 ≤ K ∧ K ≤ 11) (k u m v e : ByteArray) (_hk : k.size ≤ 100000) (L : List A2) (B T X Y : ByteArray) (hT : T = bs (Oct.cat [B, k])) (hTs : T.size ≤ 200000) (c1 : RdR 56 L (fun x => #[rv K k u m v e x]) (.int .i64 0))
    (c2 : Mak 58 #[.int .u64 K, .int .i64 1] (.string B)) (c3 : RdR 59 L (fun x => #[rv K k u m v e x]) (.bool false))
    (c4 : Mak 60 #[.string ⟨#[0, 0, 0, 0, 0, 0, 0, 0, 0, 0, 0, 0, 0, 0, 0, 0]⟩, .string T] (.tuple #[.string X, .int .i64 0])) (c5 : Ret 61 #[.string X, .int .i64 0, .int .i64 5] (.string Y)) : RdR 34 L (fun x => #[rv K k u m v e x]) (.tuple #[.string Y, .int .i64 0]) := by
  have HJ := Lib.hid (fun W => Oct.join_lit W [B, k] 2 rfl #[.string B, .string k] rfl T hT (by omega) (by decide))
  have e1 : IntKind.u64.wrap K = K := IntWalk.u64_in _ (by omega)
  obtain ⟨g1, g2⟩ := hK
  clear hT
  intro w x hT hx
  have HX9 := Lib.hid hx
  obtain ⟨A, q, rfl, hq1, hq2⟩ := hx.slice
  have hp := Lib.hid (hb_new w Tab2 hT #[.int .i64 K, .string k, .slice A L.length q, .string u, .string m, .string v, .string e] 26)
  have HX := Lib.hid (hx.since hp.out.since)
  have HS := Lib.hid hp.out.since
  obtain ⟨_, m0, m1, m2, m3, m4, m5, m6⟩ := hb7 hp
  clear hx hT
  go_enter Tryd.func34, Tryd.ntmps34
  go_wp2_with fail
  clear m0 m1 m2 m3 m4 m5 m6
  refine (c1.calls0 hp.out.tabs HX.out) ?_
  intro w1 h1
  replace hp := Lib.hid (hp.out.step (by first | exact h1 | exact (Since.alloc (Since.refl _) _).step h1 | exact (Since.alloc (Since.alloc (Since.refl _) _) _).step h1 | exact (Since.drew (Since.refl _)).step h1 | exact (Since.alloc (Since.alloc (Since.alloc (Since.refl _) _) _) _).step h1))
  replace HX := Lib.hid (HX.out.since (by first | exact h1 | exact (Since.alloc (Since.refl _) _).step h1 | exact (Since.alloc (Since.alloc (Since.refl _) _) _).step h1 | exact (Since.drew (Since.refl _)).step h1 | exact (Since.alloc (Since.alloc (Since.alloc (Since.refl _) _) _) _).step h1))
  replace HS := Lib.hid (HS.out.step (by first | exact h1 | exact (Since.alloc (Since.refl _) _).step h1 | exact (Since.alloc (Since.alloc (Since.refl _) _) _).step h1 | exact (Since.drew (Since.refl _)).step h1 | exact (Since.alloc (Since.alloc (Since.alloc (Since.refl _) _) _) _).step h1))
  clear h1
  obtain ⟨_, m0, m1, m2, m3, m4, m5, m6⟩ := hb7 hp
  clear m2 m3 m4 m5 m6
  have HX0 := Lib.hid (show ∀ W, HB w Tab2 w.heap.size #[.int .i64 K, .string k, .slice A L.length q, .string u, .string m, .string v, .string e] W → AttsS W (.slice A L.length q) L from fun W h => HX9.out.since h.since)
  clear HX HS HX9
  go_wp2_with fail
  go_region_held3 (fun W => Hid (HB w Tab2 w.heap.size #[.int .i64 K, .string k, .slice A L.length q, .string u, .string m, .string v, .string e] W) ∧ W.cell? ⟨w.heap.size, 0, none⟩ = some (.int .i64 K) ∧ W.cell? ⟨w.heap.size, 1, none⟩ = some (.string k))
    (first | exact hb7r (by assumption) | exact hb7r (hbdrew (by assumption)) | exact hb7r (hbal (by assumption)) | exact hb7r (hbal (hbdrew (by assumption))) | exact hb7r (hbdrew (hbal (by assumption))))
    (first
      | (go_at_call 58; with_reducible refine c2.calls0 ?_; intro wy hby; have hpy := hbstep hby (by first | assumption | exact hbdrew (by assumption)); clear hby)
      | (go_at_call 57; with_reducible refine (HJ.out _).mono ?_; rintro e wy ⟨rfl, hby⟩; have hpy := hbstep hby (by first | assumption | exact hbdrew (by assumption) | exact hbal (by assumption) | exact hbal (hbdrew (by assumption))); clear hby))
  all_goals
    have hp9 : Hid (HB w Tab2 w.heap.size #[.int .i64 K, .string k, .slice A L.length q, .string u, .string m, .string v, .string e] _) := (by first | assumption | exact hbdrew (by assumption))
    clear m0 m1
    obtain ⟨_, m0, m1, m2, m3, m4, m5, m6⟩ := hb7 hp9
    go_wp2_with fail
    refine c3.calls0 hp9.out.tabs (HX0.out _ hp9.out) ?_
    intro w5 h5
    have hpa := Lib.hid (hp9.out.step h5)
    clear m0 m1 m2 m3 m4 m5 m6 h5
    obtain ⟨_, m0, m1, m2, m3, m4, m5, m6⟩ := hb7 hpa
    go_wp2_with fail
    refine c4.calls0 ?_
    intro w6 h6
    have HS := Lib.hid (hpa.out.since.step h6)
    clear m0 m1 m2 m3 m4 m5 m6 h6
    go_wp2_with fail
    refine (c5).calls ?_
    go_wp2_with fail
    go_ret2
    exact ⟨rfl, HS.out⟩
/-- all that Of, Legacy and Check answer -/
def ofV (K : Int) (k : ByteArray) (L : List A2) : Value := if recE K k L = 0 then .tuple #[.string (ofS K k), .int .i64 0] else .tuple #[.string ⟨#[]⟩, .int .i64 (recE K k L)]
def leE (K : Int) (k : ByteArray) (L : List A2) : Int := if recE K k L = 0 then (if aesB K then 0 else 8) else recE K k L
def leV (K : Int) (k : ByteArray) (L : List A2) : Value := .tuple #[.string (if recE K k L = 0 then leS K k else ⟨#[]⟩), .int .i64 (leE K k L)]
theorem of_rec (K : Int) (k u m v e : ByteArray) (L : List A2) (hk : k.size ≤ 100000) : RdR 34 L (fun x => #[rv K k u m v e x]) (ofV K k L) := by
  have c1 := check_rec K k u m v e L hk _ rfl
  unfold ofV
  by_cases h : recE K k L = 0
  · rw [if_pos h]
    rw [h] at c1
    obtain ⟨h1, h2⟩ := rec_ok h
    obtain ⟨k1, k2, k3⟩ := kind_in h1
    have hT : kb K ++ k = bs (Oct.cat [kb K, k]) := by apply ba_ext; rw [list_bs, app_list]; simp [Oct.cat]
    have hTs : (kb K ++ k).size ≤ 200000 := by rw [ByteArray.size_append]; have : (kb K).size = 1 := rfl; omega
    have c3 := aes_rec K k u m v e L
    unfold ofS ofX
    cases hb : aesB K with
    | true =>
      rw [hb] at c3
      rw [if_pos rfl]
      exact of_aes K ⟨k1, k2⟩ k u m v e hk L _ _ _ _ hT hTs c1 (put_kb K k1 k2) c3 (Cmac.tag_yes k Z16 (k3 hb) (by decide) _ rfl) (cut_ret _ 5 (by decide) (Cmac.tagK_size _ _) (by decide))
    | false =>
      rw [hb] at c3
      rw [if_neg (by decide)]
      exact of_oth K ⟨k1, k2⟩ k u m v e hk L _ _ _ _ hT hTs c1 (put_kb K k1 k2) c3 (Cmac.tag_yes Z16 _ z16_key (by omega) _ rfl) (cut_ret _ 5 (by decide) (Cmac.tagK_size _ _) (by decide))
  · rw [if_neg h]
    exact of_bad K k u m v e L _ (by rw [bne_iff_ne]; exact h) c1
theorem le_rec (K : Int) (k u m v e : ByteArray) (L : List A2) (hk : k.size ≤ 100000) : RdR 36 L (fun x => #[rv K k u m v e x]) (leV K k L) := by
  have c1 := check_rec K k u m v e L hk _ rfl
  unfold leV leE
  by_cases h : recE K k L = 0
  · rw [if_pos h, if_pos h]
    rw [h] at c1
    obtain ⟨h1, h2⟩ := rec_ok h
    obtain ⟨k1, k2, k3⟩ := kind_in h1
    have c3 := aes_rec K k u m v e L
    unfold leS
    cases hb : aesB K with
    | true =>
      rw [hb] at c3
      rw [if_pos rfl, if_pos rfl]
      exact le_ok K k u m v e L _ _ c1 c3 (encrypt_yes k Z16 (k3 hb) rfl _ rfl) (cut_ret _ 3 (by decide) (encK_size _ _) (by decide))
    | false =>
      rw [hb] at c3
      rw [if_neg (by decide), if_neg (by decide)]
      exact le_kind K k u m v e L c1 c3
  · rw [if_neg h, if_neg h]
    exact le_bad K k u m v e L _ (by rw [bne_iff_ne]; exact h) c1
set_option maxRecDepth 100000 in
theorem chk_bad (K : Int) (k u m v e y : ByteArray) (L : List A2) (E : Int) (hE : (E != 0) = true) (c1 : RdR 56 L (fun x => #[rv K k u m v e x]) (.int .i64 E)) : RdR 35 L (fun x => #[rv K k u m v e x, .string y]) (.tuple #[.bool false, .int .i64 E]) := by
  intro w x hT hx
  obtain ⟨A, q, rfl, hq1, hq2⟩ := hx.slice
  have hp := Lib.hid (hb_new w Tab2 hT #[.int .i64 K, .string k, .slice A L.length q, .string u, .string m, .string v, .string e] 26)
  have HX := Lib.hid (hx.since hp.out.since)
  have HS := Lib.hid hp.out.since
  obtain ⟨_, m0, m1, m2, m3, m4, m5, m6⟩ := hb7 hp
  clear hx hT
  go_enter Tryd.func35, Tryd.ntmps35
  go_wp2_with fail
  clear m0 m1 m2 m3 m4 m5 m6
  refine (c1.calls0 hp.out.tabs HX.out) ?_
  intro w1 h1
  replace HS := Lib.hid (HS.out.step (by first | exact h1 | exact (Since.alloc (Since.refl _) _).step h1 | exact (Since.alloc (Since.alloc (Since.refl _) _) _).step h1 | exact (Since.drew (Since.refl _)).step h1 | exact (Since.alloc (Since.alloc (Since.alloc (Since.refl _) _) _) _).step h1))
  clear h1
  go_wp2_with fail
  go_ret2
  exact ⟨rfl, HS.out⟩
set_option maxRecDepth 100000 in
theorem fn0 (w : World) : (Instr.index 81 (.agg #[.func (.func 34) #[] #[], .func (.func 36) #[] #[]]) (.int .i64 0)).run Tryd.prog w = .ok (.func (.func 34) #[] #[]) w := by kernel_rfl
set_option maxRecDepth 100000 in
theorem fn1 (w : World) : (Instr.index 81 (.agg #[.func (.func 34) #[] #[], .func (.func 36) #[] #[]]) (.int .i64 1)).run Tryd.prog w = .ok (.func (.func 36) #[] #[]) w := by kernel_rfl
set_option maxRecDepth 100000 in
set_option maxHeartbeats 8000000 in
theorem chk_ok (K : Int) (k u m v e y : ByteArray) (L : List A2) (P Q : ByteArray) (EQ : Int) (q1 q2 qe : Bool) (n1 n2 : Int) (hqe : (EQ == 0) = qe) (c1 : RdR 56 L (fun x => #[rv K k u m v e x]) (.int .i64 0))
    (c2 : RdR 34 L (fun x => #[rv K k u m v e x]) (.tuple #[.string P, .int .i64 0])) (c3 : RdR 36 L (fun x => #[rv K k u m v e x]) (.tuple #[.string Q, .int .i64 EQ]))
    (c4 : Mak 62 #[.string P, .string y] (.tuple #[.bool q1, .int .i64 n1])) (c5 : Mak 62 #[.string Q, .string y] (.tuple #[.bool q2, .int .i64 n2])) (B : Bool) (hB : B = (q1 || (q2 && qe))) : RdR 35 L (fun x => #[rv K k u m v e x, .string y]) (.tuple #[.bool B, .int .i64 0]) := by
  intro w x hT hx
  have HX9 := Lib.hid hx
  obtain ⟨A, q, rfl, hq1, hq2⟩ := hx.slice
  have hp := Lib.hid (hb_new w Tab2 hT #[.int .i64 K, .string k, .slice A L.length q, .string u, .string m, .string v, .string e] 26)
  have HX := Lib.hid (hx.since hp.out.since)
  have HS := Lib.hid hp.out.since
  obtain ⟨_, m0, m1, m2, m3, m4, m5, m6⟩ := hb7 hp
  clear hx hT
  subst hB
  have x0 := fn0
  have x1 := fn1
  go_enter Tryd.func35, Tryd.ntmps35
  go_wp2_with fail
  clear m0 m1 m2 m3 m4 m5 m6
  refine (c1.calls0 hp.out.tabs HX.out) ?_
  intro w1 h1
  replace hp := Lib.hid (hp.out.step (by first | exact h1 | exact (Since.alloc (Since.refl _) _).step h1 | exact (Since.alloc (Since.alloc (Since.refl _) _) _).step h1 | exact (Since.drew (Since.refl _)).step h1 | exact (Since.alloc (Since.alloc (Since.alloc (Since.refl _) _) _) _).step h1))
  replace HX := Lib.hid (HX.out.since (by first | exact h1 | exact (Since.alloc (Since.refl _) _).step h1 | exact (Since.alloc (Since.alloc (Since.refl _) _) _).step h1 | exact (Since.drew (Since.refl _)).step h1 | exact (Since.alloc (Since.alloc (Since.alloc (Since.refl _) _) _) _).step h1))
  replace HS := Lib.hid (HS.out.step (by first | exact h1 | exact (Since.alloc (Since.refl _) _).step h1 | exact (Since.alloc (Since.alloc (Since.refl _) _) _).step h1 | exact (Since.drew (Since.refl _)).step h1 | exact (Since.alloc (Since.alloc (Since.alloc (Since.refl _) _) _) _).step h1))
  clear h1
  clear HX HS
  obtain ⟨_, m0, m1, m2, m3, m4, m5, m6⟩ := hb7 hp
  go_wp2_with fail
  clear m0 m1 m2 m3 m4 m5 m6
  go_loopw [7, 20] (fun fv iv wr => ((iv = .int .i64 0 ∧ fv = .bool false) ∨ (iv = .int .i64 1 ∧ fv = .bool q1) ∨ (iv = .int .i64 2 ∧ fv = .bool (q1 || (q2 && qe)))) ∧ Hid (HB w Tab2 w.heap.size #[.int .i64 K, .string k, .slice A L.length q, .string u, .string m, .string v, .string e] wr)) (fun _ iv _ => 2 - (intOf iv).toNat)
  case atStart => exact ⟨.inl ⟨rfl, rfl⟩, hp⟩
  case round =>
    clear hp
    obtain ⟨hr, hp⟩ := hrel
    rcases hr with ⟨rfl, rfl⟩ | ⟨rfl, rfl⟩ | ⟨rfl, rfl⟩
    · obtain ⟨_, m0, m1, m2, m3, m4, m5, m6⟩ := hb7 hp
      go_wp2_with fail
      refine c2.calls0 hp.out.tabs (HX9.out.since hp.out.since) ?_
      intro w5 h5
      replace hp := Lib.hid (hp.out.step h5)
      clear m0 m1 m2 m3 m4 m5 m6 h5
      go_wp2_with fail
      refine c4.calls0 ?_
      intro w6 h6
      replace hp := Lib.hid (hp.out.step h6)
      clear h6
      cases q1
      all_goals
        go_wp2_with fail
        go_roundw
        case rel => exact ⟨.inr (.inl ⟨rfl, rfl⟩), hp⟩
        case measure => simp [intOf]
    · obtain ⟨_, m0, m1, m2, m3, m4, m5, m6⟩ := hb7 hp
      go_wp2_with fail
      refine c3.calls0 hp.out.tabs (HX9.out.since hp.out.since) ?_
      intro w5 h5
      replace hp := Lib.hid (hp.out.step h5)
      clear m0 m1 m2 m3 m4 m5 m6 h5
      go_wp2_with fail
      refine c5.calls0 ?_
      intro w6 h6
      replace hp := Lib.hid (hp.out.step h6)
      clear h6
      cases q1
      all_goals cases q2
      all_goals cases qe
      all_goals
        go_wp2_with fail
        go_roundw
        case rel => exact ⟨.inr (.inr ⟨rfl, rfl⟩), hp⟩
        case measure => simp [intOf]
    · go_wp2_with fail
      go_ret2
      exact ⟨rfl, hp.out.since⟩
def chV (K : Int) (k y : ByteArray) (L : List A2) : Value := .tuple #[.bool (decide (recE K k L = 0) && (decide (ofS K k = y) || (decide (leS K k = y) && aesB K))), .int .i64 (recE K k L)]
theorem ch_rec (K : Int) (k u m v e y : ByteArray) (L : List A2) (hk : k.size ≤ 100000) (hy : y.size ≤ 100000) : RdR 35 L (fun x => #[rv K k u m v e x, .string y]) (chV K k y L) := by
  have c1 := check_rec K k u m v e L hk _ rfl
  unfold chV
  by_cases h : recE K k L = 0
  · have c2 := of_rec K k u m v e L hk
    have c3 := le_rec K k u m v e L hk
    unfold ofV at c2
    unfold leV leE at c3
    rw [if_pos h] at c2
    rw [if_pos h, if_pos h] at c3
    rw [h] at c1
    rw [h, decide_eq_true rfl, Bool.true_and]
    have hl : (leS K k).size ≤ 3 := by unfold leS; split; · rw [ByteArray.size_extract]; omega
                                       · decide
    obtain ⟨n1, c4⟩ := Scan.scan_m (ofS K k) y (by rw [ofS_size]; omega) (by omega) _ rfl
    obtain ⟨n2, c5⟩ := Scan.scan_m (leS K k) y (by omega) (by omega) _ rfl
    exact chk_ok K k u m v e y L _ _ _ _ _ (aesB K) n1 n2 (by cases aesB K <;> rfl) c1 c2 c3 c4 c5 _ rfl
  · rw [decide_eq_false h, Bool.false_and]
    exact chk_bad K k u m v e y L _ (by rw [bne_iff_ne]; exact h) c1
end Kcv
end Go.Proofs.YtgfdomdbjiflmaaDoor

/- The reference of kcv: parts of a key, check values. -/
namespace Go.Proofs.YtgfdomdbjiflmaaDoor
open Go.RowKit
namespace RefKcv
open Att Kind Rec Rnd Aes Kcv

set_option maxRecDepth 100000 in
theorem rsplit_empty (l : List ByteArray) : RdQ 30 l (fun x => #[.string ⟨#[]⟩, x]) (.tuple #[.slice none 0 0, .int .i64 3]) := by
  intro w x hx
  clear hx
  go_enter Tryd.func30, Tryd.ntmps30
  go_wp2_with fail
  go_ret2
  exact ⟨rfl, Below.refl _ _⟩
set_option maxRecDepth 100000 in
theorem rsplit_full (s : ByteArray) (hs : s.toList.isEmpty = false) (l : List ByteArray) (h : 8 < l.length) : RdQ 30 l (fun x => #[.string s, x]) (.tuple #[.slice none 0 0, .int .i64 17]) := by
  intro w x hx
  obtain ⟨A, c, rfl, h1, h2⟩ := SlR.slice hx
  have hle := SlR.le hx
  obtain ⟨n, hn⟩ : ∃ n, n = l.length := ⟨_, rfl⟩
  rw [← hn] at h h1 hle ⊢
  have t1 : decide ((8 : Int) < (n : Int)) = true := decide_eq_true (by omega)
  clear hx hn h
  go_enter Tryd.func30, Tryd.ntmps30
  go_wp2_with fail
  go_ret2
  exact ⟨rfl, Below.refl _ _⟩
/-- what Split answers, right or wrong -/
def SplQ (w : World) (s : ByteArray) (l : List ByteArray) (x : Ending) (w' : World) : Prop :=
  (l.all (asB s.size) = true ∧ SplP w s l x w') ∨ (l.all (asB s.size) = false ∧ x = .returned (.tuple #[.slice none 0 0, .int .i64 9]) ∧ Below w.heap.size w w')
set_option maxRecDepth 100000 in
set_option maxHeartbeats 4000000 in
theorem rsplit_some (s : ByteArray) (hs : s.toList.isEmpty = false) (hz : s.size ≤ 100000) (l : List ByteArray) (h : l.length ≤ 8) : ∀ w x, StrsS w x l → Calls Tryd.prog 30 #[.string s, x] w (SplQ w s l) := by
  intro w x hx
  have HX := Lib.hid hx
  have HS := Lib.hid (Since.refl w)
  have hcl := hx
  obtain ⟨A, c, rfl, h1, h2⟩ := SlR.slice hx
  unfold SplQ SplP
  obtain ⟨n, hn⟩ : ∃ n, n = l.length := ⟨_, rfl⟩
  have HC : Hid (∀ i p, l[i]? = some p → ∃ b o, A = some ⟨b, o, none⟩ ∧ b < w.heap.size ∧ w.cell? ⟨b, o + i, none⟩ = some (.string p)) := Lib.hid (by
    intro i p hp
    obtain ⟨b, o, c', hv, _, _, hlt, hcell⟩ := cells_at hcl (by have := (List.getElem?_eq_some_iff.1 hp).1; omega)
    cases hv
    exact ⟨b, o, rfl, hlt, hcell i p hp⟩)
  rw [← hn] at h h1 HX ⊢
  have t1 : decide ((8 : Int) < (n : Int)) = false := decide_eq_false (by omega)
  have HN := Lib.hid hn
  clear hx hcl hn
  go_enter Tryd.func30, Tryd.ntmps30
  go_wp2_with fail
  go_loopw [6, 7, 8] (fun lv ov iv wr => ∃ (k : Nat) (S : ByteArray), k ≤ n ∧ iv = .int .i64 (k : Int) ∧ lv = .string S ∧ Hid (S = sumB s (l.take k)) ∧ Hid ((l.take k).all (asB s.size) = true) ∧ Hid (wr.ownsRow w.heap.size 9 1 ov k ((l.take k).map Value.string)) ∧ Hid (Since w wr)) (fun _ _ iv _ => n - (intOf iv).toNat)
  case atStart => exact ⟨0, s, by omega, rfl, rfl, Lib.hid rfl, Lib.hid rfl, Lib.hid (World.ownsRow_nil _ _ _ _), HS⟩
  case round =>
    clear HS
    obtain ⟨k, S, hk, rfl, rfl, HA, HB, HO, HS⟩ := hrel
    by_cases hlt : k < n
    · obtain ⟨p, hp⟩ : ∃ p, l[k]? = some p := ⟨l[k]'(by rw [← HN.out]; exact hlt), List.getElem?_eq_getElem _⟩
      obtain ⟨b, o, hAv, h3, hcell⟩ := HC.out k p hp
      subst hAv
      have m0 : wr.cell? ⟨b, o + k, none⟩ = some (.string p) := (Below.cell HS.out (p := ⟨b, o + k, none⟩) h3).trans hcell
      have i1 : (0 : Int) ≤ (k : Int) := by omega
      have i2 : (k : Int) < (n : Int) := by omega
      have HA2 : Hid ((l.take (k + 1)).all (asB s.size) = asB s.size p) := Lib.hid (by rw [Kcv.take_snoc l k p hp, List.all_append, HB.out]; simp)
      have HM := Lib.hid (List.mem_of_getElem? hp)
      have HP := Lib.hid hp
      clear hp hcell
      by_cases hz2 : p.size = s.size
      · have t2 : ((p.size : Int) != (s.size : Int)) = false := by rw [bne_eq_false_iff_eq]; omega
        have t3 : (p.size != s.size) = false := by rw [bne_eq_false_iff_eq]; exact hz2
        have HA3 : Hid ((l.take (k + 1)).all (asB s.size) = true) := Lib.hid (by rw [HA2.out]; exact decide_eq_true hz2)
        have hSs : S.size ≤ 100000 := by rw [HA.out]; exact Nat.le_trans (sum_size _ _) hz
        have hps : p.size ≤ 100000 := by omega
        obtain ⟨T, hT⟩ : ∃ T, T = Sched.xorS S p := ⟨_, rfl⟩
        have c1 := RefSched.xor_m S p (by omega) (by omega) T hT
        have HT2 : Hid (T = sumB s (l.take (k + 1))) := Lib.hid (by rw [sum_snoc s l k p HP.out, hT, HA.out])
        have HL2 : Hid ((l.take (k + 1)).map Value.string = (l.take k).map Value.string ++ [.string p]) := Lib.hid (by rw [Kcv.take_snoc l k p HP.out, List.map_append]; rfl)
        clear hT hSs hps hz2
        go_wp2_with fail
        refine c1.calls0 ?_
        intro w2 h2'
        have hH2 := Nat.lt_of_lt_of_le (Nat.lt_of_lt_of_le h3 (Below.size HS.out)) (Below.size h2')
        replace m0 := (Below.cell h2' (p := ⟨b, o + k, none⟩) (Nat.lt_of_lt_of_le h3 (Below.size HS.out))).trans m0
        replace HO := Lib.hid (Att.row_since HO.out h2')
        replace HS := Lib.hid (HS.out.step h2')
        clear h2'
        go_wp2_with (at_builtin; refine app_one_k elemS rfl _ _ (by rfl) w _ _ k _ (by rfl) HO.out HS.out _ (by rfl) rfl (by omega) (by decide) ?_)
        intro v' w3 hown hs3 _
        have HO2 : Hid (w3.ownsRow w.heap.size 9 1 v' (k + 1) ((l.take (k + 1)).map Value.string)) := Lib.hid (by rw [HL2.out, List.map_take]; exact hown)
        have HS3 := Lib.hid hs3
        clear hown hs3 m0 HO HS
        go_wp2_with fail
        go_roundw
        case rel => exact ⟨k + 1, T, by omega, by go_num, rfl, HT2, HA3, HO2, HS3⟩
        case measure => simp [intOf]; omega
      · have t2 : ((p.size : Int) != (s.size : Int)) = true := by rw [bne_iff_ne]; omega
        have t3 : (p.size != s.size) = true := by rw [bne_iff_ne]; exact hz2
        have HF : Hid (l.all (asB s.size) = false) := Lib.hid (by
          rw [List.all_eq_false]
          exact ⟨_, HM.out, by unfold asB; rw [decide_eq_false hz2]; decide⟩)
        clear hz2
        go_wp2_with fail
        go_ret2
        exact .inr ⟨HF.out, rfl, HS.out⟩
    · obtain rfl : n = k := by omega
      have HF : Hid (l.all (asB s.size) = true) := Lib.hid (by have h9 := HB.out; rw [HN.out, List.take_length] at h9; exact h9)
      have HT : Hid (S = sumB s l) := Lib.hid (by rw [HA.out, HN.out, List.take_length])
      have HL : Hid ((l ++ [S]).map Value.string = (l.take n).map Value.string ++ [.string S]) := Lib.hid (by rw [HN.out, List.take_length, List.map_append]; rfl)
      go_wp2_with (at_builtin; refine app_one_k elemS rfl _ _ (by rfl) w _ _ n _ (by rfl) HO.out HS.out _ (by rfl) rfl (by omega) (by decide) ?_)
      intro v' w3 hown hs3 _
      have HO2 : Hid (w3.ownsRow w.heap.size 9 1 v' (n + 1) ((l ++ [S]).map Value.string)) := Lib.hid (by rw [HL.out, List.map_take]; exact hown)
      have HS3 := Lib.hid hs3
      clear hown hs3 HO HS
      go_wp2_with fail
      go_ret2
      exact .inl ⟨HF.out, _, rfl, by rw [← HT.out]; exact HO2.out, HS3.out⟩
set_option maxRecDepth 100000 in
theorem rcomb_arg (l : List ByteArray) (h : l.length < 1 ∨ 9 < l.length) : RdQ 32 l (fun x => #[x]) (.tuple #[.string ⟨#[]⟩, .int .i64 1]) := by
  intro w x hx
  obtain ⟨A, c, rfl, h1, h2⟩ := SlR.slice hx
  have hle := SlR.le hx
  obtain ⟨n, hn⟩ : ∃ n, n = l.length := ⟨_, rfl⟩
  rw [← hn] at h h1 hle ⊢
  clear hx hn
  by_cases h0 : n < 1
  · have t1 : decide ((n : Int) < 1) = true := decide_eq_true (by omega)
    clear h h0
    go_enter Tryd.func32, Tryd.ntmps32
    go_wp2_with fail
    go_ret2
    exact ⟨rfl, Below.refl _ _⟩
  · have t1 : decide ((n : Int) < 1) = false := decide_eq_false (by omega)
    have t2 : decide ((9 : Int) < (n : Int)) = true := decide_eq_true (by omega)
    clear h h0
    go_enter Tryd.func32, Tryd.ntmps32
    go_wp2_with fail
    go_ret2
    exact ⟨rfl, Below.refl _ _⟩
set_option maxRecDepth 100000 in
theorem rcomb_empty (l r : List ByteArray) (p : ByteArray) (hl : l = p :: r) (h8 : l.length ≤ 9) (h0 : 0 < l.length) (hp : p = ⟨#[]⟩) : RdQ 32 l (fun x => #[x]) (.tuple #[.string ⟨#[]⟩, .int .i64 3]) := by
  intro w x hx
  obtain ⟨b, o, c, rfl, h1, h2, h3, h4⟩ := cells_at hx (by omega)
  have m0 := h4 0 p (by rw [hl]; rfl)
  rw [Nat.add_zero] at m0
  have HS := Lib.hid (Since.refl w)
  obtain ⟨n, hn⟩ : ∃ n, n = l.length := ⟨_, rfl⟩
  rw [← hn] at h1 h8 h0 ⊢
  have t1 : decide ((n : Int) < 1) = false := decide_eq_false (by omega)
  have t2 : decide ((9 : Int) < (n : Int)) = false := decide_eq_false (by omega)
  have i1 : (0 : Int) < (n : Int) := by omega
  subst hp
  clear h4 hx hl hn
  go_enter Tryd.func32, Tryd.ntmps32
  go_wp2_with fail
  go_ret2
  exact ⟨rfl, HS.out⟩
def combV (p : ByteArray) (r l : List ByteArray) : Value := if l.all (asB p.size) then .tuple #[.string (sumB p r), .int .i64 0] else .tuple #[.string ⟨#[]⟩, .int .i64 9]
set_option maxRecDepth 100000 in
set_option maxHeartbeats 4000000 in
theorem rcomb_some (l r : List ByteArray) (p : ByteArray) (hl : l = p :: r) (h8 : l.length ≤ 9) (h0 : 0 < l.length) (hs : p.toList.isEmpty = false) (hz : p.size ≤ 100000) (V : Value) (hV : combV p r l = V) : RdQ 32 l (fun x => #[x]) V := by
  intro w x hx
  obtain ⟨b, o, c, rfl, h1, h2, h3, h4⟩ := cells_at hx (by omega)
  have m0 := h4 0 p (by rw [hl]; rfl)
  rw [Nat.add_zero] at m0
  have HS := Lib.hid (Since.refl w)
  obtain ⟨n, hn⟩ : ∃ n, n = l.length := ⟨_, rfl⟩
  rw [← hn] at h1 h8 h0 ⊢
  have t1 : decide ((n : Int) < 1) = false := decide_eq_false (by omega)
  have t2 : decide ((9 : Int) < (n : Int)) = false := decide_eq_false (by omega)
  have i1 : (0 : Int) < (n : Int) := by omega
  have HC := Lib.hid h4
  have HN := Lib.hid hn
  have HV := Lib.hid hV
  have HL := Lib.hid hl
  clear h4 hx hl hn hV
  go_enter Tryd.func32, Tryd.ntmps32
  go_wp2_with fail
  clear m0
  go_loopw [4, 5] (fun kv iv wr => ∃ (k : Nat) (S : ByteArray), k + 1 ≤ n ∧ iv = .int .i64 ((k : Int) + 1) ∧ kv = .string S ∧ S.size = p.size ∧ Hid (S = sumB p (r.take k)) ∧ Hid ((r.take k).all (asB p.size) = true) ∧ Hid (Since w wr)) (fun _ iv _ => n - (intOf iv).toNat)
  case atStart => exact ⟨0, p, by omega, rfl, rfl, rfl, Lib.hid rfl, Lib.hid rfl, HS⟩
  case round =>
    clear HS
    obtain ⟨k, S, hk, rfl, rfl, hS, HA, HB, HS⟩ := hrel
    by_cases hlt : k + 1 < n
    · obtain ⟨y, hy⟩ : ∃ y, l[k + 1]? = some y := ⟨l[k + 1]'(by rw [← HN.out]; exact hlt), List.getElem?_eq_getElem _⟩
      have HY : Hid (r[k]? = some y) := Lib.hid (by have h9 := hy; rw [HL.out, List.getElem?_cons_succ] at h9; exact h9)
      have m0 : wr.cell? ⟨b, o + (k + 1), none⟩ = some (.string y) := (Below.cell HS.out (p := ⟨b, o + (k + 1), none⟩) h3).trans (HC.out (k + 1) y hy)
      have e1 : ((k : Int) + 1).toNat = k + 1 := by omega
      have i2 : (0 : Int) ≤ (k : Int) + 1 := by omega
      have i3 : (k : Int) + 1 < (n : Int) := by omega
      have i4 : decide ((k : Int) + 1 < (n : Int)) = true := decide_eq_true i3
      have HA2 : Hid ((r.take (k + 1)).all (asB p.size) = asB p.size y) := Lib.hid (by rw [Kcv.take_snoc r k y HY.out, List.all_append, HB.out]; simp)
      clear hy
      by_cases hz2 : y.size = S.size
      · have t4 : ((y.size : Int) != (S.size : Int)) = false := by rw [bne_eq_false_iff_eq]; omega
        have t3 : (y.size != S.size) = false := by rw [bne_eq_false_iff_eq]; exact hz2
        have HA3 : Hid ((r.take (k + 1)).all (asB p.size) = true) := Lib.hid (by rw [HA2.out]; exact decide_eq_true (by omega))
        obtain ⟨T, hT⟩ : ∃ T, T = Sched.xorS S y := ⟨_, rfl⟩
        have hTs : T.size = p.size := by rw [hT, Sched.xorS_size]; omega
        have c1 := RefSched.xor_m S y (by omega) (by omega) T hT
        have HT2 : Hid (T = sumB p (r.take (k + 1))) := Lib.hid (by rw [sum_snoc p r k y HY.out, hT, HA.out])
        clear hT hz2
        go_wp2_with fail
        refine (c1.calls0) ?_
        intro w2 h2
        replace HS := Lib.hid (HS.out.step (by first | exact h2 | exact (Since.alloc (Since.refl _) _).step h2 | exact (Since.alloc (Since.alloc (Since.refl _) _) _).step h2 | exact (Since.drew (Since.refl _)).step h2 | exact (Since.alloc (Since.alloc (Since.alloc (Since.refl _) _) _) _).step h2))
        clear h2
        go_wp2_with fail
        go_roundw
        case rel => exact ⟨k + 1, T, by omega, by go_num, rfl, hTs, HT2, HA3, HS⟩
        case measure => simp [intOf]; omega
      · have t4 : ((y.size : Int) != (S.size : Int)) = true := by rw [bne_iff_ne]; omega
        have t3 : (y.size != S.size) = true := by rw [bne_iff_ne]; exact hz2
        have hVf : V = .tuple #[.string ⟨#[]⟩, .int .i64 9] := by
          rw [← HV.out, combV, if_neg]
          rw [HL.out, List.all_cons]
          intro h9
          rw [Bool.and_eq_true] at h9
          have h7 := List.all_eq_true.1 h9.2 y (List.mem_of_getElem? HY.out)
          have := of_decide_eq_true (show decide (y.size = p.size) = true from h7)
          omega
        subst hVf
        clear hz2
        go_wp2_with fail
        go_ret2
        exact ⟨rfl, HS.out⟩
    · have hkn : n = k + 1 := by omega
      have i4 : decide ((k : Int) + 1 < (n : Int)) = false := decide_eq_false (by omega)
      have hrl : r.length = k := by have h9 := HN.out; rw [HL.out, List.length_cons] at h9; omega
      have hVf : V = .tuple #[.string S, .int .i64 0] := by
        rw [← HV.out, combV, if_pos, HA.out]
        · rw [← hrl, List.take_length]
        · rw [HL.out, List.all_cons]
          have h9 := HB.out
          rw [← hrl, List.take_length] at h9
          rw [h9]; simp [asB]
      subst hVf
      go_wp2_with fail
      go_ret2
      exact ⟨rfl, HS.out⟩
end RefKcv
end Go.Proofs.YtgfdomdbjiflmaaDoor
