/- Joined texts. -/
-- PACK: YtgfdomdbjiflmaaGreatDoorKcv2 YtgfdomdbjiflmaaGreatDoorRefKcv YtgfdomdbjiflmaaGreatDoorRefKcv2
import Derived.Test.YtgfdomdbjiflmaaGreatDoorKv48
import Derived.Test.YtgfdomdbjiflmaaGreatDoorKv40
import Derived.Test.YtgfdomdbjiflmaaGreatDoorKv47
import Derived.Test.YtgfdomdbjiflmaaGreatDoorKv28
import Derived.Test.YtgfdomdbjiflmaaGreatDoorKv19
import Derived.Test.YtgfdomdbjiflmaaGreatDoorKv46
import Derived.Test.YtgfdomdbjiflmaaGreatDoorKv43
import Derived.Test.YtgfdomdbjiflmaaGreatDoorKv41

/- Package kcv: check values. -/
namespace Go.Proofs.YtgfdomdbjiflmaaGreatDoor
open Go.RowKit
namespace Kcv
open Att Kind Rec Rnd Aes
def aesB (K : Int) : Bool := (rowOf K).2.2.1 == [65]
def Z16 : ByteArray := ⟨#[0, 0, 0, 0, 0, 0, 0, 0, 0, 0, 0, 0, 0, 0, 0, 0]⟩
/-- a kind's number as a byte -/
def kb (K : Int) : ByteArray := ⟨#[UInt8.ofNat K.toNat]⟩
def ofX (K : Int) (k : ByteArray) : ByteArray := if aesB K then Cmac.tagK k Z16 else Cmac.tagK Z16 (kb K ++ k)
def ofS (K : Int) (k : ByteArray) : ByteArray := (ofX K k).extract 0 5
def leS (K : Int) (k : ByteArray) : ByteArray := if aesB K then (encK k Z16).extract 0 3 else ⟨#[]⟩
theorem ofX_size (K : Int) (k : ByteArray) : (ofX K k).size = 16 := by unfold ofX; split <;> exact Cmac.tagK_size _ _
theorem ofS_size (K : Int) (k : ByteArray) : (ofS K k).size = 5 := by unfold ofS; rw [ByteArray.size_extract, ofX_size]; rfl
/-- kinds that there are -/
theorem kind_in {K : Int} {k : ByteArray} (h : chkE (rowOf K) k.data.toList = 0) : 1 ≤ K ∧ K ≤ 11 ∧ (aesB K = true → keyOk k) := by
  unfold chkE at h
  split at h
  · cases h
  · split at h
    · cases h
    · rename_i h1 h2
      have hl : k.data.toList.length = k.size := rfl
      rw [hl] at h2
      rcases row_cases K with g | rfl | rfl | rfl | rfl | rfl | rfl | rfl | rfl | rfl | rfl | rfl
      · rw [rowOf_out K g] at h1; exact absurd rfl h1
      · have e : (rowOf 1).2.1 = 16 := by decide
        rw [e] at h2; exact ⟨by decide, by decide, fun _ => .inl (by omega)⟩
      · have e : (rowOf 2).2.1 = 24 := by decide
        rw [e] at h2; exact ⟨by decide, by decide, fun _ => .inr (.inl (by omega))⟩
      · have e : (rowOf 3).2.1 = 32 := by decide
        rw [e] at h2; exact ⟨by decide, by decide, fun _ => .inr (.inr (by omega))⟩
      all_goals exact ⟨by decide, by decide, fun h => absurd h (by decide)⟩
theorem rec_ok {K : Int} {k : ByteArray} {L : List A2} (h : recE K k L = 0) : chkE (rowOf K) k.data.toList = 0 ∧ attE L = 0 := by
  unfold recE at h
  split at h
  · rename_i h1; exact absurd h h1
  · rename_i h1; exact ⟨by omega, h⟩
theorem z16_key : keyOk Z16 := .inl rfl
theorem cut_ret (X : ByteArray) (n : Nat) (h1 : 1 ≤ n) (hx : X.size = 16) (hn : n ≤ 16) : Ret 37 #[.string X, .int .i64 0, .int .i64 (n : Int)] (.string (X.extract 0 n)) := fun w => by
  have h := Oct.cut_yes X 0 n w (by omega) (by omega) (by omega) h1
  rw [List.drop_zero] at h
  have e : bs (X.data.toList.take n) = X.extract 0 n := by
    apply ba_ext
    rw [list_bs, ByteArray.data_extract, Array.toList_extract, List.extract_eq_take_drop]
    simp
  rw [e] at h
  exact h
theorem put_kb (K : Int) (h1 : 1 ≤ K) (h2 : K ≤ 11) : Mak 34 #[.int .u64 K, .int .i64 1] (.string (kb K)) := fun w => by
  have h := Oct.put_mid K 1 w (by omega) (by omega) (by decide) (by decide)
  have e : strOfNums (Oct.putL K 1) = kb K := by
    have := Sched.put1 K.toNat (by omega)
    rw [show ((K.toNat : Nat) : Int) = K by omega] at this
    exact this
  rw [e] at h; exact h
set_option maxRecDepth 100000 in
theorem aes_rec (K : Int) (k u m v e : ByteArray) (L : List A2) : RdR 35 L (fun x => #[rv K k u m v e x]) (.bool (aesB K)) := by
  have c1 := KMk.t2 (letter_k K _ rfl)
  obtain ⟨X, hX⟩ : ∃ X, X = bs (rowOf K).2.2.1 := ⟨_, rfl⟩
  have t1 : (X.toList == [65]) = aesB K := by
    have e : X.toList = (rowOf K).2.2.1 := by rw [hX]; simp [ByteArray.toList_eq, list_bs]
    rw [e]; rfl
  rw [← hX] at c1
  generalize aesB K = B at t1 ⊢
  clear hX
  intro w x hT hx
  obtain ⟨A, q, rfl, hq1, hq2⟩ := hx.slice
  have hp := Lib.hid (hb_new w Tab2 hT #[.int .i64 K, .string k, .slice A L.length q, .string u, .string m, .string v, .string e] 34)
  have HX := Lib.hid (hx.since hp.out.since)
  have HS := Lib.hid hp.out.since
  obtain ⟨_, m0, m1, m2, m3, m4, m5, m6⟩ := hb7 hp
  clear hx hT
  go_enter Tryz.func35, Tryz.ntmps35
  go_wp2_with fail
  clear m0 m1 m2 m3 m4 m5 m6
  refine (c1.calls0 hp.out.tabs) ?_
  intro w1 h1
  replace HS := Lib.hid (HS.out.step (by first | exact h1 | exact (Since.alloc (Since.refl _) _).step h1 | exact (Since.alloc (Since.alloc (Since.refl _) _) _).step h1 | exact (Since.drew (Since.refl _)).step h1 | exact (Since.alloc (Since.alloc (Since.alloc (Since.refl _) _) _) _).step h1))
  clear h1
  go_wp2_with fail
  go_ret
  exact ⟨rfl, HS.out⟩
set_option maxRecDepth 100000 in
theorem of_bad (K : Int) (k u m v e : ByteArray) (L : List A2) (E : Int) (hE : (E != 0) = true) (c1 : RdR 32 L (fun x => #[rv K k u m v e x]) (.int .i64 E)) : RdR 14 L (fun x => #[rv K k u m v e x]) (.tuple #[.string ⟨#[]⟩, .int .i64 E]) := by
  intro w x hT hx
  obtain ⟨A, q, rfl, hq1, hq2⟩ := hx.slice
  have hp := Lib.hid (hb_new w Tab2 hT #[.int .i64 K, .string k, .slice A L.length q, .string u, .string m, .string v, .string e] 34)
  have HX := Lib.hid (hx.since hp.out.since)
  have HS := Lib.hid hp.out.since
  obtain ⟨_, m0, m1, m2, m3, m4, m5, m6⟩ := hb7 hp
  clear hx hT
  go_enter Tryz.func14, Tryz.ntmps14
  go_wp2_with fail
  clear m0 m1 m2 m3 m4 m5 m6
  refine (c1.calls0 hp.out.tabs HX.out) ?_
  intro w1 h1
  replace HS := Lib.hid (HS.out.step (by first | exact h1 | exact (Since.alloc (Since.refl _) _).step h1 | exact (Since.alloc (Since.alloc (Since.refl _) _) _).step h1 | exact (Since.drew (Since.refl _)).step h1 | exact (Since.alloc (Since.alloc (Since.alloc (Since.refl _) _) _) _).step h1))
  clear h1
  go_wp2_with fail
  go_ret2
  exact ⟨rfl, HS.out⟩
set_option maxRecDepth 100000 in
theorem le_bad (K : Int) (k u m v e : ByteArray) (L : List A2) (E : Int) (hE : (E != 0) = true) (c1 : RdR 32 L (fun x => #[rv K k u m v e x]) (.int .i64 E)) : RdR 16 L (fun x => #[rv K k u m v e x]) (.tuple #[.string ⟨#[]⟩, .int .i64 E]) := by
  intro w x hT hx
  obtain ⟨A, q, rfl, hq1, hq2⟩ := hx.slice
  have hp := Lib.hid (hb_new w Tab2 hT #[.int .i64 K, .string k, .slice A L.length q, .string u, .string m, .string v, .string e] 34)
  have HX := Lib.hid (hx.since hp.out.since)
  have HS := Lib.hid hp.out.since
  obtain ⟨_, m0, m1, m2, m3, m4, m5, m6⟩ := hb7 hp
  clear hx hT
  go_enter Tryz.func16, Tryz.ntmps16
  go_wp2_with fail
  clear m0 m1 m2 m3 m4 m5 m6
  refine (c1.calls0 hp.out.tabs HX.out) ?_
  intro w1 h1
  replace HS := Lib.hid (HS.out.step (by first | exact h1 | exact (Since.alloc (Since.refl _) _).step h1 | exact (Since.alloc (Since.alloc (Since.refl _) _) _).step h1 | exact (Since.drew (Since.refl _)).step h1 | exact (Since.alloc (Since.alloc (Since.alloc (Since.refl _) _) _) _).step h1))
  clear h1
  go_wp2_with fail
  go_ret2
  exact ⟨rfl, HS.out⟩
set_option maxRecDepth 100000 in
theorem le_kind (K : Int) (k u m v e : ByteArray) (L : List A2) (c1 : RdR 32 L (fun x => #[rv K k u m v e x]) (.int .i64 0)) (c2 : RdR 35 L (fun x => #[rv K k u m v e x]) (.bool false)) : RdR 16 L (fun x => #[rv K k u m v e x]) (.tuple #[.string ⟨#[]⟩, .int .i64 8]) := by
  intro w x hT hx
  obtain ⟨A, q, rfl, hq1, hq2⟩ := hx.slice
  have hp := Lib.hid (hb_new w Tab2 hT #[.int .i64 K, .string k, .slice A L.length q, .string u, .string m, .string v, .string e] 34)
  have HX := Lib.hid (hx.since hp.out.since)
  have HS := Lib.hid hp.out.since
  obtain ⟨_, m0, m1, m2, m3, m4, m5, m6⟩ := hb7 hp
  clear hx hT
  go_enter Tryz.func16, Tryz.ntmps16
  go_wp2_with fail
  clear m0 m1 m2 m3 m4 m5 m6
  refine (c1.calls0 hp.out.tabs HX.out) ?_
  intro w1 h1
  replace hp := Lib.hid (hp.out.step (by first | exact h1 | exact (Since.alloc (Since.refl _) _).step h1 | exact (Since.alloc (Since.alloc (Since.refl _) _) _).step h1 | exact (Since.drew (Since.refl _)).step h1 | exact (Since.alloc (Since.alloc (Since.alloc (Since.refl _) _) _) _).step h1))
  replace HX := Lib.hid (HX.out.since (by first | exact h1 | exact (Since.alloc (Since.refl _) _).step h1 | exact (Since.alloc (Since.alloc (Since.refl _) _) _).step h1 | exact (Since.drew (Since.refl _)).step h1 | exact (Since.alloc (Since.alloc (Since.alloc (Since.refl _) _) _) _).step h1))
  replace HS := Lib.hid (HS.out.step (by first | exact h1 | exact (Since.alloc (Since.refl _) _).step h1 | exact (Since.alloc (Since.alloc (Since.refl _) _) _).step h1 | exact (Since.drew (Since.refl _)).step h1 | exact (Since.alloc (Since.alloc (Since.alloc (Since.refl _) _) _) _).step h1))
  clear h1
  obtain ⟨_, m0, m1, m2, m3, m4, m5, m6⟩ := hb7 hp
  go_wp2_with fail
  clear m0 m1 m2 m3 m4 m5 m6
  refine (c2.calls0 hp.out.tabs HX.out) ?_
  intro w2 h2
  replace HS := Lib.hid (HS.out.step (by first | exact h2 | exact (Since.alloc (Since.refl _) _).step h2 | exact (Since.alloc (Since.alloc (Since.refl _) _) _).step h2 | exact (Since.drew (Since.refl _)).step h2 | exact (Since.alloc (Since.alloc (Since.alloc (Since.refl _) _) _) _).step h2))
  clear h2
  go_wp2_with fail
  go_ret2
  exact ⟨rfl, HS.out⟩
set_option maxRecDepth 100000 in
theorem le_ok (K : Int) (k u m v e : ByteArray) (L : List A2) (X Y : ByteArray) (c1 : RdR 32 L (fun x => #[rv K k u m v e x]) (.int .i64 0)) (c2 : RdR 35 L (fun x => #[rv K k u m v e x]) (.bool true))
    (c3 : Mak 43 #[.string k, .string ⟨#[0, 0, 0, 0, 0, 0, 0, 0, 0, 0, 0, 0, 0, 0, 0, 0]⟩] (.tuple #[.string X, .int .i64 0])) (c4 : Ret 37 #[.string X, .int .i64 0, .int .i64 3] (.string Y)) : RdR 16 L (fun x => #[rv K k u m v e x]) (.tuple #[.string Y, .int .i64 0]) := by
  intro w x hT hx
  obtain ⟨A, q, rfl, hq1, hq2⟩ := hx.slice
  have hp := Lib.hid (hb_new w Tab2 hT #[.int .i64 K, .string k, .slice A L.length q, .string u, .string m, .string v, .string e] 34)
  have HX := Lib.hid (hx.since hp.out.since)
  have HS := Lib.hid hp.out.since
  obtain ⟨_, m0, m1, m2, m3, m4, m5, m6⟩ := hb7 hp
  clear hx hT
  go_enter Tryz.func16, Tryz.ntmps16
  go_wp2_with fail
  clear m0 m1 m2 m3 m4 m5 m6
  refine (c1.calls0 hp.out.tabs HX.out) ?_
  intro w1 h1
  replace hp := Lib.hid (hp.out.step (by first | exact h1 | exact (Since.alloc (Since.refl _) _).step h1 | exact (Since.alloc (Since.alloc (Since.refl _) _) _).step h1 | exact (Since.drew (Since.refl _)).step h1 | exact (Since.alloc (Since.alloc (Since.alloc (Since.refl _) _) _) _).step h1))
  replace HX := Lib.hid (HX.out.since (by first | exact h1 | exact (Since.alloc (Since.refl _) _).step h1 | exact (Since.alloc (Since.alloc (Since.refl _) _) _).step h1 | exact (Since.drew (Since.refl _)).step h1 | exact (Since.alloc (Since.alloc (Since.alloc (Since.refl _) _) _) _).step h1))
  replace HS := Lib.hid (HS.out.step (by first | exact h1 | exact (Since.alloc (Since.refl _) _).step h1 | exact (Since.alloc (Since.alloc (Since.refl _) _) _).step h1 | exact (Since.drew (Since.refl _)).step h1 | exact (Since.alloc (Since.alloc (Since.alloc (Since.refl _) _) _) _).step h1))
  clear h1
  obtain ⟨_, m0, m1, m2, m3, m4, m5, m6⟩ := hb7 hp
  go_wp2_with fail
  clear m0 m1 m2 m3 m4 m5 m6
  refine (c2.calls0 hp.out.tabs HX.out) ?_
  intro w2 h2
  replace hp := Lib.hid (hp.out.step (by first | exact h2 | exact (Since.alloc (Since.refl _) _).step h2 | exact (Since.alloc (Since.alloc (Since.refl _) _) _).step h2 | exact (Since.drew (Since.refl _)).step h2 | exact (Since.alloc (Since.alloc (Since.alloc (Since.refl _) _) _) _).step h2))
  replace HX := Lib.hid (HX.out.since (by first | exact h2 | exact (Since.alloc (Since.refl _) _).step h2 | exact (Since.alloc (Since.alloc (Since.refl _) _) _).step h2 | exact (Since.drew (Since.refl _)).step h2 | exact (Since.alloc (Since.alloc (Since.alloc (Since.refl _) _) _) _).step h2))
  replace HS := Lib.hid (HS.out.step (by first | exact h2 | exact (Since.alloc (Since.refl _) _).step h2 | exact (Since.alloc (Since.alloc (Since.refl _) _) _).step h2 | exact (Since.drew (Since.refl _)).step h2 | exact (Since.alloc (Since.alloc (Since.alloc (Since.refl _) _) _) _).step h2))
  clear h2
  obtain ⟨_, m0, m1, m2, m3, m4, m5, m6⟩ := hb7 hp
  go_wp2_with fail
  clear m0 m1 m2 m3 m4 m5 m6
  refine (c3.calls0) ?_
  intro w3 h3
  replace HS := Lib.hid (HS.out.step (by first | exact h3 | exact (Since.alloc (Since.refl _) _).step h3 | exact (Since.alloc (Since.alloc (Since.refl _) _) _).step h3 | exact (Since.drew (Since.refl _)).step h3 | exact (Since.alloc (Since.alloc (Since.alloc (Since.refl _) _) _) _).step h3))
  clear h3
  go_wp2_with fail
  refine (c4).calls ?_
  go_wp2_with fail
  go_ret2
  exact ⟨rfl, HS.out⟩
theorem hb7r {w : World} {K : World → Prop} {g : Nat} {a b c d e f k : Value} {W : World} (h : Hid (HB w K g #[a, b, c, d, e, f, k] W)) : Hid (HB w K g #[a, b, c, d, e, f, k] W) ∧ W.cell? ⟨g, 0, none⟩ = some a ∧ W.cell? ⟨g, 1, none⟩ = some b :=
  ⟨h, h.out.cell 0 _ rfl, h.out.cell 1 _ rfl⟩
set_option maxRecDepth 100000 in
set_option maxHeartbeats 8000000 in
theorem of_aes (K : Int) (hK : 1 ≤ K ∧ K ≤ 11) (k u m v e : ByteArray) (_hk : k.size ≤ 100000) (L : List A2) (B T X Y : ByteArray) (hT : T = bs (Oct.cat [B, k])) (hTs : T.size ≤ 200000) (c1 : RdR 32 L (fun x => #[rv K k u m v e x]) (.int .i64 0))
    (c2 : Mak 34 #[.int .u64 K, .int .i64 1] (.string B)) (c3 : RdR 35 L (fun x => #[rv K k u m v e x]) (.bool true))
    (c4 : Mak 36 #[.string k, .string ⟨#[0, 0, 0, 0, 0, 0, 0, 0, 0, 0, 0, 0, 0, 0, 0, 0]⟩] (.tuple #[.string X, .int .i64 0])) (c5 : Ret 37 #[.string X, .int .i64 0, .int .i64 5] (.string Y)) : RdR 14 L (fun x => #[rv K k u m v e x]) (.tuple #[.string Y, .int .i64 0]) := by
  have HJ := Lib.hid (fun W => Oct.join_lit W [B, k] 2 rfl #[.string B, .string k] rfl T hT (by omega) (by decide))
  have e1 : IntKind.u64.wrap K = K := IntWalk.u64_in _ (by omega)
  obtain ⟨g1, g2⟩ := hK
  clear hT
  intro w x hT hx
  have HX9 := Lib.hid hx
  obtain ⟨A, q, rfl, hq1, hq2⟩ := hx.slice
  have hp := Lib.hid (hb_new w Tab2 hT #[.int .i64 K, .string k, .slice A L.length q, .string u, .string m, .string v, .string e] 34)
  have HX := Lib.hid (hx.since hp.out.since)
  have HS := Lib.hid hp.out.since
  obtain ⟨_, m0, m1, m2, m3, m4, m5, m6⟩ := hb7 hp
  clear hx hT
  go_enter Tryz.func14, Tryz.ntmps14
  go_wp2_with fail
  clear m0 m1 m2 m3 m4 m5 m6
  refine (c1.calls0 hp.out.tabs HX.out) ?_
  intro w1 h1
  replace hp := Lib.hid (hp.out.step (by first | exact h1 | exact (Since.alloc (Since.refl _) _).step h1 | exact (Since.alloc (Since.alloc (Since.refl _) _) _).step h1 | exact (Since.drew (Since.refl _)).step h1 | exact (Since.alloc (Since.alloc (Since.alloc (Since.refl _) _) _) _).step h1))
  replace HX := Lib.hid (HX.out.since (by first | exact h1 | exact (Since.alloc (Since.refl _) _).step h1 | exact (Since.alloc (Since.alloc (Since.refl _) _) _).step h1 | exact (Since.drew (Since.refl _)).step h1 | exact (Since.alloc (Since.alloc (Since.alloc (Since.refl _) _) _) _).step h1))
  replace HS := Lib.hid (HS.out.step (by first | exact h1 | exact (Since.alloc (Since.refl _) _).step h1 | exact (Since.alloc (Since.alloc (Since.refl _) _) _).step h1 | exact (Since.drew (Since.refl _)).step h1 | exact (Since.alloc (Since.alloc (Since.alloc (Since.refl _) _) _) _).step h1))
  clear h1
  obtain ⟨_, m0, m1, m2, m3, m4, m5, m6⟩ := hb7 hp
  clear m2 m3 m4 m5 m6
  have HX0 := Lib.hid (show ∀ W, HB w Tab2 w.heap.size #[.int .i64 K, .string k, .slice A L.length q, .string u, .string m, .string v, .string e] W → AttsS W (.slice A L.length q) L from fun W h => HX9.out.since h.since)
  clear HX HS HX9
  go_wp2_with fail
  go_region_held3 (fun W => Hid (HB w Tab2 w.heap.size #[.int .i64 K, .string k, .slice A L.length q, .string u, .string m, .string v, .string e] W) ∧ W.cell? ⟨w.heap.size, 0, none⟩ = some (.int .i64 K) ∧ W.cell? ⟨w.heap.size, 1, none⟩ = some (.string k))
    (first | exact hb7r (by assumption) | exact hb7r (hbdrew (by assumption)) | exact hb7r (hbal (by assumption)) | exact hb7r (hbal (hbdrew (by assumption))) | exact hb7r (hbdrew (hbal (by assumption))))
    (first
      | (go_at_call 34; with_reducible refine c2.calls0 ?_; intro wy hby; have hpy := hbstep hby (by first | assumption | exact hbdrew (by assumption)); clear hby)
      | (go_at_call 33; with_reducible refine (HJ.out _).mono ?_; rintro e wy ⟨rfl, hby⟩; have hpy := hbstep hby (by first | assumption | exact hbdrew (by assumption) | exact hbal (by assumption) | exact hbal (hbdrew (by assumption))); clear hby))
  all_goals
    have hp9 : Hid (HB w Tab2 w.heap.size #[.int .i64 K, .string k, .slice A L.length q, .string u, .string m, .string v, .string e] _) := (by first | assumption | exact hbdrew (by assumption))
    clear m0 m1
    obtain ⟨_, m0, m1, m2, m3, m4, m5, m6⟩ := hb7 hp9
    go_wp2_with fail
    refine c3.calls0 hp9.out.tabs (HX0.out _ hp9.out) ?_
    intro w5 h5
    have hpa := Lib.hid (hp9.out.step h5)
    clear m0 m1 m2 m3 m4 m5 m6 h5
    obtain ⟨_, m0, m1, m2, m3, m4, m5, m6⟩ := hb7 hpa
    go_wp2_with fail
    refine c4.calls0 ?_
    intro w6 h6
    have HS := Lib.hid (hpa.out.since.step h6)
    clear m0 m1 m2 m3 m4 m5 m6 h6
    go_wp2_with fail
    refine (c5).calls ?_
    go_wp2_with fail
    go_ret2
    exact ⟨rfl, HS.out⟩
set_option maxRecDepth 100000 in
set_option maxHeartbeats 8000000 in
theorem of_oth (K : Int) (hK : 1 ≤ K ∧ K ≤ 11) (k u m v e : ByteArray) (_hk : k.size ≤ 100000) (L : List A2) (B T X Y : ByteArray) (hT : T = bs (Oct.cat [B, k])) (hTs : T.size ≤ 200000) (c1 : RdR 32 L (fun x => #[rv K k u m v e x]) (.int .i64 0))
    (c2 : Mak 34 #[.int .u64 K, .int .i64 1] (.string B)) (c3 : RdR 35 L (fun x => #[rv K k u m v e x]) (.bool false))
    (c4 : Mak 36 #[.string ⟨#[0, 0, 0, 0, 0, 0, 0, 0, 0, 0, 0, 0, 0, 0, 0, 0]⟩, .string T] (.tuple #[.string X, .int .i64 0])) (c5 : Ret 37 #[.string X, .int .i64 0, .int .i64 5] (.string Y)) : RdR 14 L (fun x => #[rv K k u m v e x]) (.tuple #[.string Y, .int .i64 0]) := by
  have HJ := Lib.hid (fun W => Oct.join_lit W [B, k] 2 rfl #[.string B, .string k] rfl T hT (by omega) (by decide))
  have e1 : IntKind.u64.wrap K = K := IntWalk.u64_in _ (by omega)
  obtain ⟨g1, g2⟩ := hK
  clear hT
  intro w x hT hx
  have HX9 := Lib.hid hx
  obtain ⟨A, q, rfl, hq1, hq2⟩ := hx.slice
  have hp := Lib.hid (hb_new w Tab2 hT #[.int .i64 K, .string k, .slice A L.length q, .string u, .string m, .string v, .string e] 34)
  have HX := Lib.hid (hx.since hp.out.since)
  have HS := Lib.hid hp.out.since
  obtain ⟨_, m0, m1, m2, m3, m4, m5, m6⟩ := hb7 hp
  clear hx hT
  go_enter Tryz.func14, Tryz.ntmps14
  go_wp2_with fail
  clear m0 m1 m2 m3 m4 m5 m6
  refine (c1.calls0 hp.out.tabs HX.out) ?_
  intro w1 h1
  replace hp := Lib.hid (hp.out.step (by first | exact h1 | exact (Since.alloc (Since.refl _) _).step h1 | exact (Since.alloc (Since.alloc (Since.refl _) _) _).step h1 | exact (Since.drew (Since.refl _)).step h1 | exact (Since.alloc (Since.alloc (Since.alloc (Since.refl _) _) _) _).step h1))
  replace HX := Lib.hid (HX.out.since (by first | exact h1 | exact (Since.alloc (Since.refl _) _).step h1 | exact (Since.alloc (Since.alloc (Since.refl _) _) _).step h1 | exact (Since.drew (Since.refl _)).step h1 | exact (Since.alloc (Since.alloc (Since.alloc (Since.refl _) _) _) _).step h1))
  replace HS := Lib.hid (HS.out.step (by first | exact h1 | exact (Since.alloc (Since.refl _) _).step h1 | exact (Since.alloc (Since.alloc (Since.refl _) _) _).step h1 | exact (Since.drew (Since.refl _)).step h1 | exact (Since.alloc (Since.alloc (Since.alloc (Since.refl _) _) _) _).step h1))
  clear h1
  obtain ⟨_, m0, m1, m2, m3, m4, m5, m6⟩ := hb7 hp
  clear m2 m3 m4 m5 m6
  have HX0 := Lib.hid (show ∀ W, HB w Tab2 w.heap.size #[.int .i64 K, .string k, .slice A L.length q, .string u, .string m, .string v, .string e] W → AttsS W (.slice A L.length q) L from fun W h => HX9.out.since h.since)
  clear HX HS HX9
  go_wp2_with fail
  go_region_held3 (fun W => Hid (HB w Tab2 w.heap.size #[.int .i64 K, .string k, .slice A L.length q, .string u, .string m, .string v, .string e] W) ∧ W.cell? ⟨w.heap.size, 0, none⟩ = some (.int .i64 K) ∧ W.cell? ⟨w.heap.size, 1, none⟩ = some (.string k))
    (first | exact hb7r (by assumption) | exact hb7r (hbdrew (by assumption)) | exact hb7r (hbal (by assumption)) | exact hb7r (hbal (hbdrew (by assumption))) | exact hb7r (hbdrew (hbal (by assumption))))
    (first
      | (go_at_call 34; with_reducible refine c2.calls0 ?_; intro wy hby; have hpy := hbstep hby (by first | assumption | exact hbdrew (by assumption)); clear hby)
      | (go_at_call 33; with_reducible refine (HJ.out _).mono ?_; rintro e wy ⟨rfl, hby⟩; have hpy := hbstep hby (by first | assumption | exact hbdrew (by assumption) | exact hbal (by assumption) | exact hbal (hbdrew (by assumption))); clear hby))
  all_goals
    have hp9 : Hid (HB w Tab2 w.heap.size #[.int .i64 K, .string k, .slice A L.length q, .string u, .string m, .string v, .string e] _) := (by first | assumption | exact hbdrew (by assumption))
    clear m0 m1
    obtain ⟨_, m0, m1, m2, m3, m4, m5, m6⟩ := hb7 hp9
    go_wp2_with fail
    refine c3.calls0 hp9.out.tabs (HX0.out _ hp9.out) ?_
    intro w5 h5
    have hpa := Lib.hid (hp9.out.step h5)
    clear m0 m1 m2 m3 m4 m5 m6 h5
    obtain ⟨_, m0, m1, m2, m3, m4, m5, m6⟩ := hb7 hpa
    go_wp2_with fail
    refine c4.calls0 ?_
    intro w6 h6
    have HS := Lib.hid (hpa.out.since.step h6)
    clear m0 m1 m2 m3 m4 m5 m6 h6
    go_wp2_with fail
    refine (c5).calls ?_
    go_wp2_with fail
    go_ret2
    exact ⟨rfl, HS.out⟩
/-- all that Of, Legacy and Check answer -/
def ofV (K : Int) (k : ByteArray) (L : List A2) : Value := if recE K k L = 0 then .tuple #[.string (ofS K k), .int .i64 0] else .tuple #[.string ⟨#[]⟩, .int .i64 (recE K k L)]
def leE (K : Int) (k : ByteArray) (L : List A2) : Int := if recE K k L = 0 then (if aesB K then 0 else 8) else recE K k L
def leV (K : Int) (k : ByteArray) (L : List A2) : Value := .tuple #[.string (if recE K k L = 0 then leS K k else ⟨#[]⟩), .int .i64 (leE K k L)]
theorem of_rec (K : Int) (k u m v e : ByteArray) (L : List A2) (hk : k.size ≤ 100000) : RdR 14 L (fun x => #[rv K k u m v e x]) (ofV K k L) := by
  have c1 := check_rec K k u m v e L hk _ rfl
  unfold ofV
  by_cases h : recE K k L = 0
  · rw [if_pos h]
    rw [h] at c1
    obtain ⟨h1, h2⟩ := rec_ok h
    obtain ⟨k1, k2, k3⟩ := kind_in h1
    have hT : kb K ++ k = bs (Oct.cat [kb K, k]) := by apply ba_ext; rw [list_bs, app_list]; simp [Oct.cat]
    have hTs : (kb K ++ k).size ≤ 200000 := by rw [ByteArray.size_append]; have : (kb K).size = 1 := rfl; omega
    have c3 := aes_rec K k u m v e L
    unfold ofS ofX
    cases hb : aesB K with
    | true =>
      rw [hb] at c3
      rw [if_pos rfl]
      exact of_aes K ⟨k1, k2⟩ k u m v e hk L _ _ _ _ hT hTs c1 (put_kb K k1 k2) c3 (Cmac.tag_yes k Z16 (k3 hb) (by decide) _ rfl) (cut_ret _ 5 (by decide) (Cmac.tagK_size _ _) (by decide))
    | false =>
      rw [hb] at c3
      rw [if_neg (by decide)]
      exact of_oth K ⟨k1, k2⟩ k u m v e hk L _ _ _ _ hT hTs c1 (put_kb K k1 k2) c3 (Cmac.tag_yes Z16 _ z16_key (by omega) _ rfl) (cut_ret _ 5 (by decide) (Cmac.tagK_size _ _) (by decide))
  · rw [if_neg h]
    exact of_bad K k u m v e L _ (by rw [bne_iff_ne]; exact h) c1
theorem le_rec (K : Int) (k u m v e : ByteArray) (L : List A2) (hk : k.size ≤ 100000) : RdR 16 L (fun x => #[rv K k u m v e x]) (leV K k L) := by
  have c1 := check_rec K k u m v e L hk _ rfl
  unfold leV leE
  by_cases h : recE K k L = 0
  · rw [if_pos h, if_pos h]
    rw [h] at c1
    obtain ⟨h1, h2⟩ := rec_ok h
    obtain ⟨k1, k2, k3⟩ := kind_in h1
    have c3 := aes_rec K k u m v e L
    unfold leS
    cases hb : aesB K with
    | true =>
      rw [hb] at c3
      rw [if_pos rfl, if_pos rfl]
      exact le_ok K k u m v e L _ _ c1 c3 (encrypt_yes k Z16 (k3 hb) rfl _ rfl) (cut_ret _ 3 (by decide) (encK_size _ _) (by decide))
    | false =>
      rw [hb] at c3
      rw [if_neg (by decide), if_neg (by decide)]
      exact le_kind K k u m v e L c1 c3
  · rw [if_neg h, if_neg h]
    exact le_bad K k u m v e L _ (by rw [bne_iff_ne]; exact h) c1
set_option maxRecDepth 100000 in
theorem chk_bad (K : Int) (k u m v e y : ByteArray) (L : List A2) (E : Int) (hE : (E != 0) = true) (c1 : RdR 32 L (fun x => #[rv K k u m v e x]) (.int .i64 E)) : RdR 18 L (fun x => #[rv K k u m v e x, .string y]) (.tuple #[.bool false, .int .i64 E]) := by
  intro w x hT hx
  obtain ⟨A, q, rfl, hq1, hq2⟩ := hx.slice
  have hp := Lib.hid (hb_new w Tab2 hT #[.int .i64 K, .string k, .slice A L.length q, .string u, .string m, .string v, .string e] 34)
  have HX := Lib.hid (hx.since hp.out.since)
  have HS := Lib.hid hp.out.since
  obtain ⟨_, m0, m1, m2, m3, m4, m5, m6⟩ := hb7 hp
  clear hx hT
  go_enter Tryz.func18, Tryz.ntmps18
  go_wp2_with fail
  clear m0 m1 m2 m3 m4 m5 m6
  refine (c1.calls0 hp.out.tabs HX.out) ?_
  intro w1 h1
  replace HS := Lib.hid (HS.out.step (by first | exact h1 | exact (Since.alloc (Since.refl _) _).step h1 | exact (Since.alloc (Since.alloc (Since.refl _) _) _).step h1 | exact (Since.drew (Since.refl _)).step h1 | exact (Since.alloc (Since.alloc (Since.alloc (Since.refl _) _) _) _).step h1))
  clear h1
  go_wp2_with fail
  go_ret2
  exact ⟨rfl, HS.out⟩
set_option maxRecDepth 100000 in
theorem fn0 (w : World) : (Instr.index 63 (.agg #[.func (.func 14) #[] #[], .func (.func 16) #[] #[]]) (.int .i64 0)).run Tryz.prog w = .ok (.func (.func 14) #[] #[]) w := by kernel_rfl
set_option maxRecDepth 100000 in
theorem fn1 (w : World) : (Instr.index 63 (.agg #[.func (.func 14) #[] #[], .func (.func 16) #[] #[]]) (.int .i64 1)).run Tryz.prog w = .ok (.func (.func 16) #[] #[]) w := by kernel_rfl
set_option maxRecDepth 100000 in
set_option maxHeartbeats 8000000 in
theorem chk_ok (K : Int) (k u m v e y : ByteArray) (L : List A2) (P Q : ByteArray) (EQ : Int) (q1 q2 qe : Bool) (n1 n2 : Int) (hqe : (EQ == 0) = qe) (c1 : RdR 32 L (fun x => #[rv K k u m v e x]) (.int .i64 0))
    (c2 : RdR 14 L (fun x => #[rv K k u m v e x]) (.tuple #[.string P, .int .i64 0])) (c3 : RdR 16 L (fun x => #[rv K k u m v e x]) (.tuple #[.string Q, .int .i64 EQ]))
    (c4 : Mak 45 #[.string P, .string y] (.tuple #[.bool q1, .int .i64 n1])) (c5 : Mak 45 #[.string Q, .string y] (.tuple #[.bool q2, .int .i64 n2])) (B : Bool) (hB : B = (q1 || (q2 && qe))) : RdR 18 L (fun x => #[rv K k u m v e x, .string y]) (.tuple #[.bool B, .int .i64 0]) := by
  intro w x hT hx
  have HX9 := Lib.hid hx
  obtain ⟨A, q, rfl, hq1, hq2⟩ := hx.slice
  have hp := Lib.hid (hb_new w Tab2 hT #[.int .i64 K, .string k, .slice A L.length q, .string u, .string m, .string v, .string e] 34)
  have HX := Lib.hid (hx.since hp.out.since)
  have HS := Lib.hid hp.out.since
  obtain ⟨_, m0, m1, m2, m3, m4, m5, m6⟩ := hb7 hp
  clear hx hT
  subst hB
  have x0 := fn0
  have x1 := fn1
  go_enter Tryz.func18, Tryz.ntmps18
  go_wp2_with fail
  clear m0 m1 m2 m3 m4 m5 m6
  refine (c1.calls0 hp.out.tabs HX.out) ?_
  intro w1 h1
  replace hp := Lib.hid (hp.out.step (by first | exact h1 | exact (Since.alloc (Since.refl _) _).step h1 | exact (Since.alloc (Since.alloc (Since.refl _) _) _).step h1 | exact (Since.drew (Since.refl _)).step h1 | exact (Since.alloc (Since.alloc (Since.alloc (Since.refl _) _) _) _).step h1))
  replace HX := Lib.hid (HX.out.since (by first | exact h1 | exact (Since.alloc (Since.refl _) _).step h1 | exact (Since.alloc (Since.alloc (Since.refl _) _) _).step h1 | exact (Since.drew (Since.refl _)).step h1 | exact (Since.alloc (Since.alloc (Since.alloc (Since.refl _) _) _) _).step h1))
  replace HS := Lib.hid (HS.out.step (by first | exact h1 | exact (Since.alloc (Since.refl _) _).step h1 | exact (Since.alloc (Since.alloc (Since.refl _) _) _).step h1 | exact (Since.drew (Since.refl _)).step h1 | exact (Since.alloc (Since.alloc (Since.alloc (Since.refl _) _) _) _).step h1))
  clear h1
  clear HX HS
  obtain ⟨_, m0, m1, m2, m3, m4, m5, m6⟩ := hb7 hp
  go_wp2_with fail
  clear m0 m1 m2 m3 m4 m5 m6
  go_loopw [7, 20] (fun fv iv wr => ((iv = .int .i64 0 ∧ fv = .bool false) ∨ (iv = .int .i64 1 ∧ fv = .bool q1) ∨ (iv = .int .i64 2 ∧ fv = .bool (q1 || (q2 && qe)))) ∧ Hid (HB w Tab2 w.heap.size #[.int .i64 K, .string k, .slice A L.length q, .string u, .string m, .string v, .string e] wr)) (fun _ iv _ => 2 - (intOf iv).toNat)
  case atStart => exact ⟨.inl ⟨rfl, rfl⟩, hp⟩
  case round =>
    clear hp
    obtain ⟨hr, hp⟩ := hrel
    rcases hr with ⟨rfl, rfl⟩ | ⟨rfl, rfl⟩ | ⟨rfl, rfl⟩
    · obtain ⟨_, m0, m1, m2, m3, m4, m5, m6⟩ := hb7 hp
      go_wp2_with fail
      refine c2.calls0 hp.out.tabs (HX9.out.since hp.out.since) ?_
      intro w5 h5
      replace hp := Lib.hid (hp.out.step h5)
      clear m0 m1 m2 m3 m4 m5 m6 h5
      go_wp2_with fail
      refine c4.calls0 ?_
      intro w6 h6
      replace hp := Lib.hid (hp.out.step h6)
      clear h6
      cases q1
      all_goals
        go_wp2_with fail
        go_roundw
        case rel => exact ⟨.inr (.inl ⟨rfl, rfl⟩), hp⟩
        case measure => simp [intOf]
    · obtain ⟨_, m0, m1, m2, m3, m4, m5, m6⟩ := hb7 hp
      go_wp2_with fail
      refine c3.calls0 hp.out.tabs (HX9.out.since hp.out.since) ?_
      intro w5 h5
      replace hp := Lib.hid (hp.out.step h5)
      clear m0 m1 m2 m3 m4 m5 m6 h5
      go_wp2_with fail
      refine c5.calls0 ?_
      intro w6 h6
      replace hp := Lib.hid (hp.out.step h6)
      clear h6
      cases q1
      all_goals cases q2
      all_goals cases qe
      all_goals
        go_wp2_with fail
        go_roundw
        case rel => exact ⟨.inr (.inr ⟨rfl, rfl⟩), hp⟩
        case measure => simp [intOf]
    · go_wp2_with fail
      go_ret2
      exact ⟨rfl, hp.out.since⟩
def chV (K : Int) (k y : ByteArray) (L : List A2) : Value := .tuple #[.bool (decide (recE K k L = 0) && (decide (ofS K k = y) || (decide (leS K k = y) && aesB K))), .int .i64 (recE K k L)]
theorem ch_rec (K : Int) (k u m v e y : ByteArray) (L : List A2) (hk : k.size ≤ 100000) (hy : y.size ≤ 100000) : RdR 18 L (fun x => #[rv K k u m v e x, .string y]) (chV K k y L) := by
  have c1 := check_rec K k u m v e L hk _ rfl
  unfold chV
  by_cases h : recE K k L = 0
  · have c2 := of_rec K k u m v e L hk
    have c3 := le_rec K k u m v e L hk
    unfold ofV at c2
    unfold leV leE at c3
    rw [if_pos h] at c2
    rw [if_pos h, if_pos h] at c3
    rw [h] at c1
    rw [h, decide_eq_true rfl, Bool.true_and]
    have hl : (leS K k).size ≤ 3 := by unfold leS; split; · rw [ByteArray.size_extract]; omega
                                       · decide
    obtain ⟨n1, c4⟩ := Scan.scan_m (ofS K k) y (by rw [ofS_size]; omega) (by omega) _ rfl
    obtain ⟨n2, c5⟩ := Scan.scan_m (leS K k) y (by omega) (by omega) _ rfl
    exact chk_ok K k u m v e y L _ _ _ _ _ (aesB K) n1 n2 (by cases aesB K <;> rfl) c1 c2 c3 c4 c5 _ rfl
  · rw [decide_eq_false h, Bool.false_and]
    exact chk_bad K k u m v e y L _ (by rw [bne_iff_ne]; exact h) c1
end Kcv
end Go.Proofs.YtgfdomdbjiflmaaGreatDoor

/- The reference of kcv: parts of a key, check values. -/
namespace Go.Proofs.YtgfdomdbjiflmaaGreatDoor
open Go.RowKit
namespace RefKcv
open Att Kind Rec Rnd Aes Kcv

/-- what Split answers, right or wrong -/
def SplQ (w : World) (s : ByteArray) (l : List ByteArray) (x : Ending) (w' : World) : Prop :=
  (l.all (asB s.size) = true ∧ SplP w s l x w') ∨ (l.all (asB s.size) = false ∧ x = .returned (.tuple #[.slice none 0 0, .int .i64 9]) ∧ Below w.heap.size w w')
def combV (p : ByteArray) (r l : List ByteArray) : Value := if l.all (asB p.size) then .tuple #[.string (sumB p r), .int .i64 0] else .tuple #[.string ⟨#[]⟩, .int .i64 9]
end RefKcv
end Go.Proofs.YtgfdomdbjiflmaaGreatDoor

/- The reference of kcv: check values. -/
namespace Go.Proofs.YtgfdomdbjiflmaaGreatDoor
open Go.RowKit
namespace RefKcv
open Att Kind Rec Rnd Aes Kcv
theorem z16_eq : Cmac.zero = Kcv.Z16 := by decide +kernel
theorem zeros_z : Mak 39 #[.int .i64 16] (.string Kcv.Z16) := by
  have h := RefCmac.zeros_m
  rw [z16_eq] at h
  exact h
theorem rput_kb (K : Int) (h1 : 1 ≤ K) (h2 : K ≤ 11) : Mak 40 #[.int .u64 K, .int .i64 1] (.string (kb K)) := fun w => by
  have h := RefOct.put_mid K 1 w (by omega) (by omega) (by decide) (by decide)
  have e : strOfNums (Oct.putL K 1) = kb K := by
    have := Sched.put1 K.toNat (by omega)
    rw [show ((K.toNat : Nat) : Int) = K by omega] at this
    exact this
  rw [← e, RefOct.put_same _ 1 (by decide)]; exact h
set_option maxRecDepth 100000 in
theorem rof_bad (K : Int) (k u m v e : ByteArray) (L : List A2) (E : Int) (hE : (E != 0) = true) (c1 : RdR 38 L (fun x => #[rv K k u m v e x]) (.int .i64 E)) : RdR 15 L (fun x => #[rv K k u m v e x]) (.tuple #[.string ⟨#[]⟩, .int .i64 E]) := by
  intro w x hT hx
  obtain ⟨A, q, rfl, hq1, hq2⟩ := hx.slice
  have HX9 := Lib.hid hx
  have hp := Lib.hid (hb_new w Tab2 hT #[.int .i64 K, .string k, .slice A L.length q, .string u, .string m, .string v, .string e] 34)
  have HX := Lib.hid (hx.since hp.out.since)
  have HS := Lib.hid hp.out.since
  obtain ⟨_, m0, m1, m2, m3, m4, m5, m6⟩ := hb7 hp
  clear hx hT
  go_enter Tryz.func15, Tryz.ntmps15
  go_wp2_with fail
  clear m0 m1 m2 m3 m4 m5 m6
  refine (c1.calls0 hp.out.tabs HX.out) ?_
  intro w1 h1
  replace HS := Lib.hid (HS.out.step (by first | exact h1 | exact (Since.alloc (Since.refl _) _).step h1 | exact (Since.alloc (Since.alloc (Since.refl _) _) _).step h1 | exact (Since.drew (Since.refl _)).step h1 | exact (Since.alloc (Since.alloc (Since.alloc (Since.refl _) _) _) _).step h1))
  clear h1
  go_wp2_with fail
  go_ret2
  exact ⟨rfl, HS.out⟩
set_option maxRecDepth 100000 in
theorem rle_bad (K : Int) (k u m v e : ByteArray) (L : List A2) (E : Int) (hE : (E != 0) = true) (c1 : RdR 38 L (fun x => #[rv K k u m v e x]) (.int .i64 E)) : RdR 17 L (fun x => #[rv K k u m v e x]) (.tuple #[.string ⟨#[]⟩, .int .i64 E]) := by
  intro w x hT hx
  obtain ⟨A, q, rfl, hq1, hq2⟩ := hx.slice
  have HX9 := Lib.hid hx
  have hp := Lib.hid (hb_new w Tab2 hT #[.int .i64 K, .string k, .slice A L.length q, .string u, .string m, .string v, .string e] 34)
  have HX := Lib.hid (hx.since hp.out.since)
  have HS := Lib.hid hp.out.since
  obtain ⟨_, m0, m1, m2, m3, m4, m5, m6⟩ := hb7 hp
  clear hx hT
  go_enter Tryz.func17, Tryz.ntmps17
  go_wp2_with fail
  clear m0 m1 m2 m3 m4 m5 m6
  refine (c1.calls0 hp.out.tabs HX.out) ?_
  intro w1 h1
  replace HS := Lib.hid (HS.out.step (by first | exact h1 | exact (Since.alloc (Since.refl _) _).step h1 | exact (Since.alloc (Since.alloc (Since.refl _) _) _).step h1 | exact (Since.drew (Since.refl _)).step h1 | exact (Since.alloc (Since.alloc (Since.alloc (Since.refl _) _) _) _).step h1))
  clear h1
  go_wp2_with fail
  go_ret2
  exact ⟨rfl, HS.out⟩
set_option maxRecDepth 100000 in
theorem rle_kind (K : Int) (k u m v e : ByteArray) (L : List A2) (Y : ByteArray) (hY : (Y.toList == [65]) = false) (_hY2 : (Y.toList != [65]) = true) (c1 : RdR 38 L (fun x => #[rv K k u m v e x]) (.int .i64 0)) (c2 : Ret 41 #[.int .i64 K] (.string Y)) : RdR 17 L (fun x => #[rv K k u m v e x]) (.tuple #[.string ⟨#[]⟩, .int .i64 8]) := by
  intro w x hT hx
  obtain ⟨A, q, rfl, hq1, hq2⟩ := hx.slice
  have HX9 := Lib.hid hx
  have hp := Lib.hid (hb_new w Tab2 hT #[.int .i64 K, .string k, .slice A L.length q, .string u, .string m, .string v, .string e] 34)
  have HX := Lib.hid (hx.since hp.out.since)
  have HS := Lib.hid hp.out.since
  obtain ⟨_, m0, m1, m2, m3, m4, m5, m6⟩ := hb7 hp
  clear hx hT
  go_enter Tryz.func17, Tryz.ntmps17
  go_wp2_with fail
  clear m0 m1 m2 m3 m4 m5 m6
  refine (c1.calls0 hp.out.tabs HX.out) ?_
  intro w1 h1
  replace hp := Lib.hid (hp.out.step (by first | exact h1 | exact (Since.alloc (Since.refl _) _).step h1 | exact (Since.alloc (Since.alloc (Since.refl _) _) _).step h1 | exact (Since.drew (Since.refl _)).step h1 | exact (Since.alloc (Since.alloc (Since.alloc (Since.refl _) _) _) _).step h1))
  replace HX := Lib.hid (HX.out.since (by first | exact h1 | exact (Since.alloc (Since.refl _) _).step h1 | exact (Since.alloc (Since.alloc (Since.refl _) _) _).step h1 | exact (Since.drew (Since.refl _)).step h1 | exact (Since.alloc (Since.alloc (Since.alloc (Since.refl _) _) _) _).step h1))
  replace HS := Lib.hid (HS.out.step (by first | exact h1 | exact (Since.alloc (Since.refl _) _).step h1 | exact (Since.alloc (Since.alloc (Since.refl _) _) _).step h1 | exact (Since.drew (Since.refl _)).step h1 | exact (Since.alloc (Since.alloc (Since.alloc (Since.refl _) _) _) _).step h1))
  clear h1
  obtain ⟨_, m0, m1, m2, m3, m4, m5, m6⟩ := hb7 hp
  go_wp2_with fail
  refine (c2).calls ?_
  go_wp2_with fail
  go_ret2
  exact ⟨rfl, HS.out⟩
set_option maxRecDepth 100000 in
set_option maxHeartbeats 8000000 in
theorem rle_ok (K : Int) (k u m v e : ByteArray) (L : List A2) (X Y : ByteArray) (hX : (X.size : Int) = 16) (hY : (Y.toList == [65]) = true) (_hY2 : (Y.toList != [65]) = false) (c1 : RdR 38 L (fun x => #[rv K k u m v e x]) (.int .i64 0)) (c2 : Ret 41 #[.int .i64 K] (.string Y))
    (c3 : Mak 39 #[.int .i64 16] (.string Kcv.Z16)) (c4 : Mak 44 #[.string k, .string Kcv.Z16] (.tuple #[.string X, .int .i64 0])) : RdR 17 L (fun x => #[rv K k u m v e x]) (.tuple #[.string (X.extract 0 3), .int .i64 0]) := by
  have i1 : (3 : Int) ≤ (X.size : Int) := by omega
  have i2 : 3 ≤ X.size := by omega
  clear hX
  intro w x hT hx
  obtain ⟨A, q, rfl, hq1, hq2⟩ := hx.slice
  have HX9 := Lib.hid hx
  have hp := Lib.hid (hb_new w Tab2 hT #[.int .i64 K, .string k, .slice A L.length q, .string u, .string m, .string v, .string e] 34)
  have HX := Lib.hid (hx.since hp.out.since)
  have HS := Lib.hid hp.out.since
  obtain ⟨_, m0, m1, m2, m3, m4, m5, m6⟩ := hb7 hp
  clear hx hT
  go_enter Tryz.func17, Tryz.ntmps17
  go_wp2_with fail
  clear m0 m1 m2 m3 m4 m5 m6
  refine (c1.calls0 hp.out.tabs HX.out) ?_
  intro w1 h1
  replace hp := Lib.hid (hp.out.step (by first | exact h1 | exact (Since.alloc (Since.refl _) _).step h1 | exact (Since.alloc (Since.alloc (Since.refl _) _) _).step h1 | exact (Since.drew (Since.refl _)).step h1 | exact (Since.alloc (Since.alloc (Since.alloc (Since.refl _) _) _) _).step h1))
  replace HX := Lib.hid (HX.out.since (by first | exact h1 | exact (Since.alloc (Since.refl _) _).step h1 | exact (Since.alloc (Since.alloc (Since.refl _) _) _).step h1 | exact (Since.drew (Since.refl _)).step h1 | exact (Since.alloc (Since.alloc (Since.alloc (Since.refl _) _) _) _).step h1))
  replace HS := Lib.hid (HS.out.step (by first | exact h1 | exact (Since.alloc (Since.refl _) _).step h1 | exact (Since.alloc (Since.alloc (Since.refl _) _) _).step h1 | exact (Since.drew (Since.refl _)).step h1 | exact (Since.alloc (Since.alloc (Since.alloc (Since.refl _) _) _) _).step h1))
  clear h1
  obtain ⟨_, m0, m1, m2, m3, m4, m5, m6⟩ := hb7 hp
  clear m2 m3 m4 m5 m6 HX HS HX9
  go_wp2_with fail
  refine (c2).calls ?_
  go_wp2_with fail
  go_region_held3 (fun W => Hid (HB w Tab2 w.heap.size #[.int .i64 K, .string k, .slice A L.length q, .string u, .string m, .string v, .string e] W) ∧ W.cell? ⟨w.heap.size, 0, none⟩ = some (.int .i64 K) ∧ W.cell? ⟨w.heap.size, 1, none⟩ = some (.string k))
    (first | exact hb7r (by assumption) | exact hb7r (hbdrew (by assumption)))
    (first
      | (go_at_call 39; with_reducible refine c3.calls0 ?_; intro wy hby; have hpy := hbstep hby (by first | assumption | exact hbdrew (by assumption)); clear hby)
      | (go_at_call 44; with_reducible refine c4.calls0 ?_; intro wy hby; have hpy := hbstep hby (by first | assumption | exact hbdrew (by assumption)); clear hby))
  all_goals
    have hp9 : Hid (HB w Tab2 w.heap.size #[.int .i64 K, .string k, .slice A L.length q, .string u, .string m, .string v, .string e] _) := (by first | assumption | exact hbdrew (by assumption))
    go_wp2_with fail
    go_ret2
    exact ⟨rfl, hp9.out.since⟩
set_option maxRecDepth 100000 in
set_option maxHeartbeats 8000000 in
theorem rof_aes (K : Int) (hK : 1 ≤ K ∧ K ≤ 11) (k u m v e : ByteArray) (L : List A2) (B T X Y : ByteArray) (hk : k.size ≤ 100000) (hBs : B.size ≤ 100) (hT : B ++ k = T) (_hTs : T.size ≤ 200000) (hX : (X.size : Int) = 16) (hY : (Y.toList == [65]) = true) (c1 : RdR 38 L (fun x => #[rv K k u m v e x]) (.int .i64 0)) (c0 : Mak 39 #[.int .i64 16] (.string Kcv.Z16))
    (c2 : Mak 40 #[.int .u64 K, .int .i64 1] (.string B)) (c3 : Ret 41 #[.int .i64 K] (.string Y))
    (c4 : Mak 42 #[.string k, .string Kcv.Z16] (.tuple #[.string X, .int .i64 0])) : RdR 15 L (fun x => #[rv K k u m v e x]) (.tuple #[.string (X.extract 0 5), .int .i64 0]) := by
  have e1 : IntKind.u64.wrap K = K := IntWalk.u64_in _ (by omega)
  have i1 : (5 : Int) ≤ (X.size : Int) := by omega
  have i2 : 5 ≤ X.size := by omega
  have i5 : ¬ 9223372036854775807 < B.size + k.size := by omega
  obtain ⟨g1, g2⟩ := hK
  clear hX
  intro w x hT hx
  obtain ⟨A, q, rfl, hq1, hq2⟩ := hx.slice
  have HX9 := Lib.hid hx
  have hp := Lib.hid (hb_new w Tab2 hT #[.int .i64 K, .string k, .slice A L.length q, .string u, .string m, .string v, .string e] 34)
  have HX := Lib.hid (hx.since hp.out.since)
  have HS := Lib.hid hp.out.since
  obtain ⟨_, m0, m1, m2, m3, m4, m5, m6⟩ := hb7 hp
  clear hx hT
  go_enter Tryz.func15, Tryz.ntmps15
  go_wp2_with fail
  clear m0 m1 m2 m3 m4 m5 m6
  refine (c1.calls0 hp.out.tabs HX.out) ?_
  intro w1 h1
  replace hp := Lib.hid (hp.out.step (by first | exact h1 | exact (Since.alloc (Since.refl _) _).step h1 | exact (Since.alloc (Since.alloc (Since.refl _) _) _).step h1 | exact (Since.drew (Since.refl _)).step h1 | exact (Since.alloc (Since.alloc (Since.alloc (Since.refl _) _) _) _).step h1))
  replace HX := Lib.hid (HX.out.since (by first | exact h1 | exact (Since.alloc (Since.refl _) _).step h1 | exact (Since.alloc (Since.alloc (Since.refl _) _) _).step h1 | exact (Since.drew (Since.refl _)).step h1 | exact (Since.alloc (Since.alloc (Since.alloc (Since.refl _) _) _) _).step h1))
  replace HS := Lib.hid (HS.out.step (by first | exact h1 | exact (Since.alloc (Since.refl _) _).step h1 | exact (Since.alloc (Since.alloc (Since.refl _) _) _).step h1 | exact (Since.drew (Since.refl _)).step h1 | exact (Since.alloc (Since.alloc (Since.alloc (Since.refl _) _) _) _).step h1))
  clear h1
  obtain ⟨_, m0, m1, m2, m3, m4, m5, m6⟩ := hb7 hp
  clear m2 m3 m4 m5 m6 HX HS HX9
  go_wp2_with fail
  refine c0.calls0 ?_
  intro wq hq
  have hp := Lib.hid (hp.out.step hq)
  clear m0 m1 hq
  obtain ⟨_, m0, m1, m2, m3, m4, m5, m6⟩ := hb7 hp
  clear m2 m3 m4 m5 m6
  go_wp2_with fail
  go_region_held3 (fun W => Hid (HB w Tab2 w.heap.size #[.int .i64 K, .string k, .slice A L.length q, .string u, .string m, .string v, .string e] W) ∧ W.cell? ⟨w.heap.size, 0, none⟩ = some (.int .i64 K) ∧ W.cell? ⟨w.heap.size, 1, none⟩ = some (.string k))
    (first | exact hb7r (by assumption) | exact hb7r (hbdrew (by assumption)))
    (first
      | (go_at_call 40; with_reducible refine c2.calls0 ?_; intro wy hby; have hpy := hbstep hby (by first | assumption | exact hbdrew (by assumption)); clear hby))
  all_goals
    have hp9 : Hid (HB w Tab2 w.heap.size #[.int .i64 K, .string k, .slice A L.length q, .string u, .string m, .string v, .string e] _) := (by first | assumption | exact hbdrew (by assumption))
    clear m0 m1
    obtain ⟨_, m0, m1, m2, m3, m4, m5, m6⟩ := hb7 hp9
    go_wp2_with fail
    refine (c3).calls ?_
    go_wp2_with fail
    refine c4.calls0 ?_
    intro w6 h6
    have HS := Lib.hid (hp9.out.since.step h6)
    clear m0 m1 m2 m3 m4 m5 m6 h6
    go_wp2_with fail
    go_ret2
    exact ⟨rfl, HS.out⟩
set_option maxRecDepth 100000 in
set_option maxHeartbeats 8000000 in
theorem rof_oth (K : Int) (hK : 1 ≤ K ∧ K ≤ 11) (k u m v e : ByteArray) (L : List A2) (B T X Y : ByteArray) (hk : k.size ≤ 100000) (hBs : B.size ≤ 100) (hT : B ++ k = T) (_hTs : T.size ≤ 200000) (hX : (X.size : Int) = 16) (hY : (Y.toList == [65]) = false) (c1 : RdR 38 L (fun x => #[rv K k u m v e x]) (.int .i64 0)) (c0 : Mak 39 #[.int .i64 16] (.string Kcv.Z16))
    (c2 : Mak 40 #[.int .u64 K, .int .i64 1] (.string B)) (c3 : Ret 41 #[.int .i64 K] (.string Y))
    (c4 : Mak 42 #[.string Kcv.Z16, .string T] (.tuple #[.string X, .int .i64 0])) : RdR 15 L (fun x => #[rv K k u m v e x]) (.tuple #[.string (X.extract 0 5), .int .i64 0]) := by
  have e1 : IntKind.u64.wrap K = K := IntWalk.u64_in _ (by omega)
  have i1 : (5 : Int) ≤ (X.size : Int) := by omega
  have i2 : 5 ≤ X.size := by omega
  have i5 : ¬ 9223372036854775807 < B.size + k.size := by omega
  obtain ⟨g1, g2⟩ := hK
  clear hX
  intro w x hT hx
  obtain ⟨A, q, rfl, hq1, hq2⟩ := hx.slice
  have HX9 := Lib.hid hx
  have hp := Lib.hid (hb_new w Tab2 hT #[.int .i64 K, .string k, .slice A L.length q, .string u, .string m, .string v, .string e] 34)
  have HX := Lib.hid (hx.since hp.out.since)
  have HS := Lib.hid hp.out.since
  obtain ⟨_, m0, m1, m2, m3, m4, m5, m6⟩ := hb7 hp
  clear hx hT
  go_enter Tryz.func15, Tryz.ntmps15
  go_wp2_with fail
  clear m0 m1 m2 m3 m4 m5 m6
  refine (c1.calls0 hp.out.tabs HX.out) ?_
  intro w1 h1
  replace hp := Lib.hid (hp.out.step (by first | exact h1 | exact (Since.alloc (Since.refl _) _).step h1 | exact (Since.alloc (Since.alloc (Since.refl _) _) _).step h1 | exact (Since.drew (Since.refl _)).step h1 | exact (Since.alloc (Since.alloc (Since.alloc (Since.refl _) _) _) _).step h1))
  replace HX := Lib.hid (HX.out.since (by first | exact h1 | exact (Since.alloc (Since.refl _) _).step h1 | exact (Since.alloc (Since.alloc (Since.refl _) _) _).step h1 | exact (Since.drew (Since.refl _)).step h1 | exact (Since.alloc (Since.alloc (Since.alloc (Since.refl _) _) _) _).step h1))
  replace HS := Lib.hid (HS.out.step (by first | exact h1 | exact (Since.alloc (Since.refl _) _).step h1 | exact (Since.alloc (Since.alloc (Since.refl _) _) _).step h1 | exact (Since.drew (Since.refl _)).step h1 | exact (Since.alloc (Since.alloc (Since.alloc (Since.refl _) _) _) _).step h1))
  clear h1
  obtain ⟨_, m0, m1, m2, m3, m4, m5, m6⟩ := hb7 hp
  clear m2 m3 m4 m5 m6 HX HS HX9
  go_wp2_with fail
  refine c0.calls0 ?_
  intro wq hq
  have hp := Lib.hid (hp.out.step hq)
  clear m0 m1 hq
  obtain ⟨_, m0, m1, m2, m3, m4, m5, m6⟩ := hb7 hp
  clear m2 m3 m4 m5 m6
  go_wp2_with fail
  go_region_held3 (fun W => Hid (HB w Tab2 w.heap.size #[.int .i64 K, .string k, .slice A L.length q, .string u, .string m, .string v, .string e] W) ∧ W.cell? ⟨w.heap.size, 0, none⟩ = some (.int .i64 K) ∧ W.cell? ⟨w.heap.size, 1, none⟩ = some (.string k))
    (first | exact hb7r (by assumption) | exact hb7r (hbdrew (by assumption)))
    (first
      | (go_at_call 40; with_reducible refine c2.calls0 ?_; intro wy hby; have hpy := hbstep hby (by first | assumption | exact hbdrew (by assumption)); clear hby))
  all_goals
    have hp9 : Hid (HB w Tab2 w.heap.size #[.int .i64 K, .string k, .slice A L.length q, .string u, .string m, .string v, .string e] _) := (by first | assumption | exact hbdrew (by assumption))
    clear m0 m1
    obtain ⟨_, m0, m1, m2, m3, m4, m5, m6⟩ := hb7 hp9
    go_wp2_with fail
    refine (c3).calls ?_
    go_wp2_with fail
    refine c4.calls0 ?_
    intro w6 h6
    have HS := Lib.hid (hp9.out.since.step h6)
    clear m0 m1 m2 m3 m4 m5 m6 h6
    go_wp2_with fail
    go_ret2
    exact ⟨rfl, HS.out⟩
theorem let_eq (K : Int) (Y : ByteArray) (hY : Y = bs (rowOf K).2.2.1) : (Y.toList == [65]) = aesB K := by
  have e : Y.toList = (rowOf K).2.2.1 := by rw [hY]; simp [ByteArray.toList_eq, list_bs]
  rw [e]; rfl
theorem rof_rec (K : Int) (k u m v e : ByteArray) (L : List A2) (hk : k.size ≤ 100000) : RdR 15 L (fun x => #[rv K k u m v e x]) (ofV K k L) := by
  have c1 := rcheck_rec K k u m v e L hk _ rfl
  unfold ofV
  by_cases h : recE K k L = 0
  · rw [if_pos h]
    rw [h] at c1
    obtain ⟨h1, h2⟩ := rec_ok h
    obtain ⟨k1, k2, k3⟩ := kind_in h1
    have hTs : (kb K ++ k).size ≤ 200000 := by rw [ByteArray.size_append]; have : (kb K).size = 1 := rfl; omega
    have c3 := rletter_ret K _ rfl
    have hY := let_eq K _ rfl
    unfold ofS ofX
    cases hb : aesB K with
    | true =>
      rw [hb] at hY
      rw [if_pos rfl]
      exact rof_aes K ⟨k1, k2⟩ k u m v e L _ _ _ _ hk (by show 1 ≤ 100; decide) rfl hTs (by rw [Cmac.tagK_size]; rfl) hY c1 zeros_z (rput_kb K k1 k2) c3 (RefCmac.tag_yes k Kcv.Z16 (k3 hb) (by decide) _ rfl)
    | false =>
      rw [hb] at hY
      rw [if_neg (by decide)]
      exact rof_oth K ⟨k1, k2⟩ k u m v e L _ _ _ _ hk (by show 1 ≤ 100; decide) rfl hTs (by rw [Cmac.tagK_size]; rfl) hY c1 zeros_z (rput_kb K k1 k2) c3 (RefCmac.tag_yes Kcv.Z16 _ z16_key (by omega) _ rfl)
  · rw [if_neg h]
    exact rof_bad K k u m v e L _ (by rw [bne_iff_ne]; exact h) c1
theorem rle_rec (K : Int) (k u m v e : ByteArray) (L : List A2) (hk : k.size ≤ 100000) : RdR 17 L (fun x => #[rv K k u m v e x]) (leV K k L) := by
  have c1 := rcheck_rec K k u m v e L hk _ rfl
  unfold leV leE
  by_cases h : recE K k L = 0
  · rw [if_pos h, if_pos h]
    rw [h] at c1
    obtain ⟨h1, h2⟩ := rec_ok h
    obtain ⟨k1, k2, k3⟩ := kind_in h1
    have c3 := rletter_ret K _ rfl
    have hY := let_eq K _ rfl
    unfold leS
    cases hb : aesB K with
    | true =>
      rw [hb] at hY
      rw [if_pos rfl, if_pos rfl]
      exact rle_ok K k u m v e L _ _ (by rw [encK_size]; rfl) hY (by rw [bne, hY]; rfl) c1 c3 zeros_z (RefAes.enc_yes k Kcv.Z16 (k3 hb) rfl _ rfl)
    | false =>
      rw [hb] at hY
      rw [if_neg (by decide), if_neg (by decide)]
      exact rle_kind K k u m v e L _ hY (by rw [bne, hY]; rfl) c1 c3
  · rw [if_neg h, if_neg h]
    exact rle_bad K k u m v e L _ (by rw [bne_iff_ne]; exact h) c1
set_option maxRecDepth 100000 in
theorem rchk_bad (K : Int) (k u m v e y P : ByteArray) (L : List A2) (E : Int) (hE : (E != 0) = true) (c1 : RdR 15 L (fun x => #[rv K k u m v e x]) (.tuple #[.string P, .int .i64 E])) : RdR 19 L (fun x => #[rv K k u m v e x, .string y]) (.tuple #[.bool false, .int .i64 E]) := by
  intro w x hT hx
  obtain ⟨A, q, rfl, hq1, hq2⟩ := hx.slice
  have HX9 := Lib.hid hx
  have hp := Lib.hid (hb_new w Tab2 hT #[.int .i64 K, .string k, .slice A L.length q, .string u, .string m, .string v, .string e] 34)
  have HX := Lib.hid (hx.since hp.out.since)
  have HS := Lib.hid hp.out.since
  obtain ⟨_, m0, m1, m2, m3, m4, m5, m6⟩ := hb7 hp
  clear hx hT
  go_enter Tryz.func19, Tryz.ntmps19
  go_wp2_with fail
  clear m0 m1 m2 m3 m4 m5 m6
  refine (c1.calls0 hp.out.tabs HX.out) ?_
  intro w1 h1
  replace HS := Lib.hid (HS.out.step (by first | exact h1 | exact (Since.alloc (Since.refl _) _).step h1 | exact (Since.alloc (Since.alloc (Since.refl _) _) _).step h1 | exact (Since.drew (Since.refl _)).step h1 | exact (Since.alloc (Since.alloc (Since.alloc (Since.refl _) _) _) _).step h1))
  clear h1
  go_wp2_with fail
  go_ret2
  exact ⟨rfl, HS.out⟩
set_option maxRecDepth 100000 in
theorem rchk_ok (K : Int) (k u m v e y P Q : ByteArray) (L : List A2) (E : Int) (q1 q2 qe B : Bool) (hq1' : (y.toList == P.toList) = q1) (hq2' : (y.toList == Q.toList) = q2) (hqe : (E == 0) = qe) (hB : B = (q1 || (qe && q2))) (c1 : RdR 15 L (fun x => #[rv K k u m v e x]) (.tuple #[.string P, .int .i64 0]))
    (c2 : RdR 17 L (fun x => #[rv K k u m v e x]) (.tuple #[.string Q, .int .i64 E])) : RdR 19 L (fun x => #[rv K k u m v e x, .string y]) (.tuple #[.bool B, .int .i64 0]) := by
  subst hB
  cases q1
  all_goals cases q2
  all_goals cases qe
  all_goals
    intro w x hT hx
    obtain ⟨A, q, rfl, hq1, hq2⟩ := hx.slice
    have HX9 := Lib.hid hx
    have hp := Lib.hid (hb_new w Tab2 hT #[.int .i64 K, .string k, .slice A L.length q, .string u, .string m, .string v, .string e] 34)
    have HX := Lib.hid (hx.since hp.out.since)
    have HS := Lib.hid hp.out.since
    obtain ⟨_, m0, m1, m2, m3, m4, m5, m6⟩ := hb7 hp
    clear hx hT
    go_enter Tryz.func19, Tryz.ntmps19
    go_wp2_with fail
    clear m0 m1 m2 m3 m4 m5 m6
    refine (c1.calls0 hp.out.tabs HX.out) ?_
    intro w1 h1
    replace hp := Lib.hid (hp.out.step (by first | exact h1 | exact (Since.alloc (Since.refl _) _).step h1 | exact (Since.alloc (Since.alloc (Since.refl _) _) _).step h1 | exact (Since.drew (Since.refl _)).step h1 | exact (Since.alloc (Since.alloc (Since.alloc (Since.refl _) _) _) _).step h1))
    replace HX := Lib.hid (HX.out.since (by first | exact h1 | exact (Since.alloc (Since.refl _) _).step h1 | exact (Since.alloc (Since.alloc (Since.refl _) _) _).step h1 | exact (Since.drew (Since.refl _)).step h1 | exact (Since.alloc (Since.alloc (Since.alloc (Since.refl _) _) _) _).step h1))
    replace HS := Lib.hid (HS.out.step (by first | exact h1 | exact (Since.alloc (Since.refl _) _).step h1 | exact (Since.alloc (Since.alloc (Since.refl _) _) _).step h1 | exact (Since.drew (Since.refl _)).step h1 | exact (Since.alloc (Since.alloc (Since.alloc (Since.refl _) _) _) _).step h1))
    clear h1
    obtain ⟨_, m0, m1, m2, m3, m4, m5, m6⟩ := hb7 hp
    go_wp2_with fail
    clear m0 m1 m2 m3 m4 m5 m6
    refine (c2.calls0 hp.out.tabs HX.out) ?_
    intro w2 h2
    replace HS := Lib.hid (HS.out.step (by first | exact h2 | exact (Since.alloc (Since.refl _) _).step h2 | exact (Since.alloc (Since.alloc (Since.refl _) _) _).step h2 | exact (Since.drew (Since.refl _)).step h2 | exact (Since.alloc (Since.alloc (Since.alloc (Since.refl _) _) _) _).step h2))
    clear h2
    go_wp2_with fail
    go_ret2
    exact ⟨rfl, HS.out⟩
theorem str_eq (a b : ByteArray) : (a.toList == b.toList) = decide (b = a) := by
  rw [Bool.eq_iff_iff, beq_iff_eq, decide_eq_true_iff]
  constructor
  · intro h
    rw [toList_d, toList_d] at h
    exact (ba_ext h).symm
  · intro h; rw [h]
theorem rch_rec (K : Int) (k u m v e y : ByteArray) (L : List A2) (hk : k.size ≤ 100000) : RdR 19 L (fun x => #[rv K k u m v e x, .string y]) (chV K k y L) := by
  have c2 := rof_rec K k u m v e L hk
  have c3 := rle_rec K k u m v e L hk
  unfold chV
  unfold ofV at c2
  unfold leV leE at c3
  by_cases h : recE K k L = 0
  · rw [if_pos h] at c2
    rw [if_pos h, if_pos h] at c3
    rw [h, decide_eq_true rfl, Bool.true_and]
    exact rchk_ok K k u m v e y _ _ L _ _ _ (aesB K) _ (str_eq _ _) (str_eq _ _) (by cases aesB K <;> rfl) (by rw [Bool.and_comm]) c2 c3
  · rw [if_neg h] at c2
    rw [decide_eq_false h, Bool.false_and]
    exact rchk_bad K k u m v e y _ L _ (by rw [bne_iff_ne]; exact h) c2
end RefKcv
end Go.Proofs.YtgfdomdbjiflmaaGreatDoor
