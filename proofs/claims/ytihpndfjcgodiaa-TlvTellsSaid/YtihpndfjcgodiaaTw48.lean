/- Joined texts. -/
-- PACK: YtihpndfjcgodiaaOid9 YtihpndfjcgodiaaOid10 YtihpndfjcgodiaaOidAwake YtihpndfjcgodiaaIntsEq
import Derived.Test.YtihpndfjcgodiaaTw43
import Derived.Test.YtihpndfjcgodiaaTw47
import Derived.Test.YtihpndfjcgodiaaTw2
import Derived.Test.YtihpndfjcgodiaaTw29
import Derived.Test.YtihpndfjcgodiaaTw19

/- Package oid: Parse. -/
namespace Go.Proofs.Ytihpndfjcgodiaa
open Go.RowKit Go.Shelf
attribute [local go_sem] Oper.semAt_some
namespace Oid

/-- a part -/
abbrev AP := { s : ByteArray // s.size ≤ 1000000 }
theorem spl_le (c : List UInt8) : ∀ cur, ∀ p ∈ spl cur c, p.length ≤ cur.length + c.length := by
  induction c with
  | nil => intro cur p hp; simp [spl] at hp; subst hp; simp
  | cons c cs ih =>
    intro cur p hp
    unfold spl at hp
    by_cases h : c = 46
    · rw [if_pos h] at hp
      simp only [List.mem_cons] at hp
      rcases hp with rfl | hp
      · simp
      · have := ih [] p hp; simp at this ⊢; omega
    · rw [if_neg h] at hp
      have := ih _ p hp; simp at this ⊢; omega
theorem parts_list (t : ByteArray) (hm : t.size ≤ 1000000) : ∃ T : List AP, T.map (fun x => x.1.data.toList) = spl [] t.data.toList := by
  have h : ∀ ps : List (List UInt8), (∀ p ∈ ps, p.length ≤ 1000000) → ∃ T : List AP, T.map (fun x => x.1.data.toList) = ps := by
    intro ps
    induction ps with
    | nil => intro _; exact ⟨[], rfl⟩
    | cons p ps ih =>
      intro hp
      obtain ⟨T, hT⟩ := ih fun q hq => hp q (by simp [hq])
      exact ⟨⟨bs p, hp p (by simp)⟩ :: T, by rw [List.map_cons, hT]; rfl⟩
  exact h _ fun p hp => by
    have := spl_le t.data.toList [] p hp
    have h9 : t.data.toList.length = t.size := rfl
    simp at this; omega
theorem spl_take (l : List UInt8) : ∀ (k : Nat) (cur : List UInt8), Cut.At l 46 k → spl cur l = (cur ++ l.take k) :: spl [] (l.drop (k + 1)) := by
  induction l with
  | nil => intro k cur h; have := h.1; simp at this
  | cons c l ih =>
    intro k cur h
    cases k with
    | zero =>
      have hc : c = 46 := by have := h.1; simpa using this
      rw [spl_dot _ _ _ hc]; simp
    | succ k =>
      have hc : c ≠ 46 := fun h2 => h.2 0 (by omega) (by rw [h2]; rfl)
      rw [spl_chr _ _ _ hc, ih k _ ⟨by have := h.1; simpa using this, fun j hj => by have := h.2 (j + 1) (by omega); simpa using this⟩]
      simp
theorem spl_no (l : List UInt8) (h : (46 : UInt8) ∉ l) : spl [] l = [l] := by
  have := spl_app l [] h []
  rw [List.append_nil] at this
  rw [this]; rfl
theorem at_or (l : List UInt8) : (∃ k, Cut.At l 46 k) ∨ (46 : UInt8) ∉ l := by
  induction l with
  | nil => right; simp
  | cons c l ih =>
    by_cases hc : c = 46
    · exact Or.inl ⟨0, by rw [hc]; rfl, fun j hj => by omega⟩
    · rcases ih with ⟨k, h⟩ | h
      · refine Or.inl ⟨k + 1, by simpa using h.1, fun j hj => ?_⟩
        cases j with
        | zero => simpa using hc
        | succ j => simpa using h.2 j (by omega)
      · exact Or.inr (by simp only [List.mem_cons, not_or]; exact ⟨fun h2 => hc h2.symm, h⟩)
def boxN (Bn : Nat) (w : World) : Nat := match w.cell? ⟨Bn, 0, none⟩ with
  | some (.string s) => s.size
  | _ => 0
theorem boxN_of {W : World} {Bn : Nat} {t : TypeId} {s : ByteArray} (h : Boxed W Bn t (.string s)) : boxN Bn W = s.size := by unfold boxN; rw [h.cell]
theorem stp_below {Bn : Nat} {X Y : World} (h : Below X.heap.size X Y) : Stp Bn X Y := .more Y ⟨h.os, h.tape, h.output, h.size, fun k hk _ => h.block k hk⟩

end Oid
end Go.Proofs.Ytihpndfjcgodiaa

/- Package oid: Parse, by its iterator. -/
namespace Go.Proofs.Ytihpndfjcgodiaa
open Go.RowKit Go.Shelf
attribute [local go_sem] Oper.semAt_some
namespace Oid
theorem pp_app (ps qs : List (List UInt8)) : ∀ l : List Int, pp (ps ++ qs) l = (pp ps l).bind (pp qs) := by
  induction ps with
  | nil => intro l; rfl
  | cons p ps ih =>
    intro l
    rw [List.cons_append]
    unfold pp
    by_cases h : unB p = false ∨ l.length = 20
    · rw [if_pos h, if_pos h]; rfl
    · rw [if_neg h, if_neg h]; exact ih _
theorem pp_len (ps : List (List UInt8)) : ∀ l m : List Int, l.length ≤ 20 → pp ps l = some m → m.length ≤ 20 := by
  induction ps with
  | nil => intro l m hl h; cases h; exact hl
  | cons p ps ih =>
    intro l m hl h
    unfold pp at h
    by_cases hb : unB p = false ∨ l.length = 20
    · rw [if_pos hb] at h; cases h
    · rw [if_neg hb] at h
      have : l.length ≠ 20 := fun h9 => hb (Or.inr h9)
      exact ih _ m (by simp; omega) h
/-- the parts that came, as arcs -/
def pc (pre : List AP) : Option (List Int) := pp (pre.map fun x => x.1.data.toList) []
theorem pc_snoc (pre : List AP) (x : AP) (l : List Int) (h : pc pre = some l) : pc (pre ++ [x]) = if unB x.1.data.toList = false ∨ l.length = 20 then none else some (l ++ [unN x.1.data.toList]) := by
  unfold pc at h ⊢
  rw [List.map_append, pp_app, h]
  rfl
theorem pc_pre (pre T : List AP) (h : pre <+: T) (hn : pc pre = none) : pc T = none := by
  obtain ⟨t, rfl⟩ := h
  unfold pc at hn ⊢
  rw [List.map_append, pp_app, hn]; rfl
theorem Sta.setC {b0 : Nat} {C : Value} {W : World} {v : Value} {l : List Int} (h : Sta b0 C W v l) (C2 : Value) : Sta b0 C2 (W.setCell ⟨b0 + 1 + 1 + 1, 0, none⟩ C2) v l :=
  ⟨h.r0.other (by omega) _, h.r1.other (by omega) _, h.bx.other (by omega) _, h.cx.set _, h.row.kept (grownBy_setCell' W _ _) (.inr (h.cx.not_row (by decide) h.row).symm)⟩
theorem keeps_below {W W' : World} (h : Below W.heap.size W W') : KeepsOthers W W' :=
  KeepsOthers.of_grownBy (row := none) ⟨h.os, h.tape, h.output, h.size, fun k hk _ => h.block k hk⟩ (fun j o e => by cases e)
theorem Sta.below {b0 : Nat} {C : Value} {W W' : World} {v : Value} {l : List Int} (h : Sta b0 C W v l) (hb : Below W.heap.size W W') : Sta b0 C W' v l :=
  h.turn (row := none) ⟨hb.os, hb.tape, hb.output, hb.size, fun k hk _ => hb.block k hk⟩ (fun r e => by cases e)

theorem decode_mk (c : ByteArray) (hm : c.size ≤ 1000000) (xs : List Int) (q : Bool) (hx : xs = decL c.data.toList) (hq : q = decB c.data.toList) : MkI 81 #[.string c] xs q := fun w => callsIn_wide.1 (decode_in c hm xs q hx hq w)
end Oid
end Go.Proofs.Ytihpndfjcgodiaa

/- Layer 17: calls that are handed names, and what the laws call awake. -/
namespace Go.Proofs.Ytihpndfjcgodiaa
open Go.RowKit
theorem IntsS.r {w : World} {v : Value} {xs : List Int} (h : IntsS w v xs) : IntsR w v xs := by
  obtain ⟨A, c, hv, h1, h2⟩ := h.slice
  refine ⟨Nat.le_trans h1 h2, A, c, hv, ?_⟩
  by_cases h0 : xs.length = 0
  · exact Or.inl (List.eq_nil_of_length_eq_zero h0)
  · obtain ⟨b, o, c', hv', _, _, hlt, hc⟩ := h.form (by omega)
    rw [hv] at hv'
    obtain ⟨rfl, -, -⟩ := Value.slice.inj hv'
    refine Or.inr ⟨⟨b, o, none⟩, rfl, hlt, fun i hi => ?_⟩
    have hadd : (⟨b, o, none⟩ : Addr).add i = ⟨b, o + i, none⟩ := by unfold Addr.add; split <;> simp_all
    rw [hadd]; exact hc i hi
namespace Oid
def RdII (f : Nat) (a b : List Int) (v : Value) : Prop := ∀ w x y, IntsS w x a → IntsS w y b → Calls Try.prog f #[x, y] w fun e w' => e = .returned v ∧ Below w.heap.size w w'
set_option maxRecDepth 100000 in
theorem RdII.calls {f : Nat} {a b : List Int} {v x y : Value} (h : RdII f a b v) {W0 w : World} (hs : Since W0 w) (hx : IntsS w x a) (hy : IntsS w y b) {R : Ending → World → Prop} (k : ∀ w', Since W0 w' → R (.returned v) w') : Calls Try.prog f #[x, y] w R :=
  (h w x y hx hy).mono fun _ _ ⟨he, hb⟩ => by subst he; exact k _ (hs.step hb)
set_option maxRecDepth 100000 in
theorem RdII.calls0 {f : Nat} {a b : List Int} {v x y : Value} (h : RdII f a b v) {w : World} (hx : IntsS w x a) (hy : IntsS w y b) {R : Ending → World → Prop} (k : ∀ w', Since w w' → R (.returned v) w') : Calls Try.prog f #[x, y] w R :=
  (h w x y hx hy).mono fun _ _ ⟨he, hb⟩ => by subst he; exact k _ hb
set_option maxRecDepth 100000 in
theorem RdI.calls0 {f : Nat} {xs : List Int} {v x : Value} (h : RdI f xs v) {w : World} (hx : IntsS w x xs) {R : Ending → World → Prop} (k : ∀ w', Since w w' → R (.returned v) w') : Calls Try.prog f #[x] w R :=
  (h w x hx).mono fun _ _ ⟨he, hb⟩ => by subst he; exact k _ hb
/-- the contents of arcs, none where they may not be -/
def encS (xs : List Int) : ByteArray := if Ok xs then bs (enc xs) else ⟨#[]⟩
def txtS (xs : List Int) : ByteArray := if Ok xs then bs (txt xs) else ⟨#[]⟩
theorem right_rd (xs : List Int) (q : Bool) (hq : q = decide (Ok xs)) : RdI 92 xs (.bool q) := fun w x hx => (right_any w x xs hx q hq).mono fun _ _ ⟨he, hw⟩ => ⟨he, by subst hw; exact Below.refl _ _⟩
theorem rright_rd (xs : List Int) (q : Bool) (hq : q = decide (Ok xs)) : RdI 103 xs (.bool q) := fun w x hx => (rright_any w x xs hx q hq).mono fun _ _ ⟨he, hw⟩ => ⟨he, by subst hw; exact Below.refl _ _⟩
theorem rencode_rd (xs : List Int) (E : ByteArray) (q : Bool) (hE : E = encS xs) (hq : q = decide (Ok xs)) : RdI 97 xs (.tuple #[.string E, .bool q]) := fun w x hx => by
  by_cases hk : Ok xs
  · rw [encS, if_pos hk] at hE
    rw [decide_eq_true hk] at hq
    subst hq
    exact rencode_yes w x xs hx hk E hE
  · rw [encS, if_neg hk] at hE
    rw [decide_eq_false hk] at hq
    subst hq hE
    exact (rencode_no w x xs hx hk).mono fun _ _ ⟨he, hw⟩ => ⟨he, by subst hw; exact Below.refl _ _⟩
def aw1 : List Int := [1, 2, 840, 10045, 2, 1]
def aw1E : ByteArray := ⟨#[42, 134, 72, 206, 61, 2, 1]⟩
theorem aw1_ok : Ok aw1 := by unfold aw1 Ok; decide
theorem aw1_enc : aw1E = encS aw1 := by
  rw [encS, if_pos aw1_ok, pd_enc2 [42, 134, 72, 206, 61, 2, 1] aw1 (by decide)]; rfl
def aw2 : List Int := [2, 999]
theorem aw2_ok : Ok aw2 := by unfold aw2 Ok; decide
theorem aw2_dec : aw2 = decL [136, 55] ∧ true = decB [136, 55] := by
  have h := dec_some [136, 55] aw2 (by decide) aw2_ok
  exact ⟨h.1.symm, h.2.symm⟩
theorem aw2_txt : (⟨#[50, 46, 57, 57, 57]⟩ : ByteArray) = txtS aw2 := by
  rw [txtS, if_pos aw2_ok]
  apply ba_ext
  rw [list_bs]
  decide +kernel
end Oid
end Go.Proofs.Ytihpndfjcgodiaa

/- Slices of numbers that are compared by a loop. -/
namespace Go.Proofs.Ytihpndfjcgodiaa
open Go.RowKit
set_option maxRecDepth 100000 in
set_option maxHeartbeats 2000000 in
theorem pints_rd (a b : List Int) (q : Bool) (hq : q = decide (a = b)) : Oid.RdII 37 a b (.bool q) := by
  intro w x y hx hy
  have hle1 := hx.le
  have hle2 := hy.le
  obtain ⟨A1, d1, rfl, h1, h2⟩ := hx.slice
  obtain ⟨A2, d2, rfl, h3, h4⟩ := hy.slice
  have HS0 := Lib.hid (Since.refl w)
  by_cases hl : a.length = b.length
  · have t1 : ((a.length : Int) != (b.length : Int)) = false := by rw [bne_eq_false_iff_eq]; omega
    by_cases h0 : a.length = 0
    · have e1 : a = b := by rw [List.eq_nil_of_length_eq_zero h0, List.eq_nil_of_length_eq_zero (hl.symm.trans h0)]
      have hq2 : q = true := by rw [hq]; exact decide_eq_true e1
      subst hq2
      rw [h0] at h1 ⊢
      rw [hl.symm.trans h0] at h3 ⊢
      clear hx hy h1 h2 h3 h4 hl e1 hq hle1 hle2 t1 h0
      go_enter Try.func37, Try.ntmps37
      go_wp2_with fail
      go_loop [5] (fun i => i = .int .i64 0) (fun _ => 0)
      case atStart => rfl
      case round =>
        obtain rfl := hrel
        go_wp2_with fail
        go_ret
        exact ⟨rfl, HS0.out⟩
    · obtain ⟨b1, o1, _, hv1, _, _, hlt1, e1⟩ := hx.form (by omega)
      obtain ⟨rfl, -, -⟩ := Value.slice.inj hv1
      obtain ⟨b2, o2, _, hv2, _, _, hlt2, e2⟩ := hy.form (by omega)
      obtain ⟨rfl, -, -⟩ := Value.slice.inj hv2
      obtain ⟨n, hn⟩ : ∃ n, a.length = n := ⟨_, rfl⟩
      have hm : b.length = n := hl.symm.trans hn
      have HN := Lib.hid hn
      have HM := Lib.hid hm
      have HQ := Lib.hid hq
      have H_e1 := Lib.hid e1
      have H_e2 := Lib.hid e2
      rw [hn, hm] at t1
      rw [hn] at hle1
      rw [hn, hm]
      clear hx hy h1 h2 h3 h4 hl hq hle2 hn hm h0 hv1 hv2 e1 e2
      go_enter Try.func37, Try.ntmps37
      go_wp2_with fail
      go_loopw [5] (fun i wr => ∃ k : Nat, k ≤ n ∧ i = .int .i64 (k : Int) ∧ Hid (a.take k = b.take k) ∧ Hid (Since w wr)) (fun i _ => n - (intOf i).toNat)
      case atStart => exact ⟨0, by omega, rfl, Lib.hid rfl, HS0⟩
      case round =>
        obtain ⟨k, hk, rfl, HT, HS⟩ := hrel
        by_cases hlt : k < n
        · have hc1 := (Below.cell HS.out (p := ⟨b1, o1 + k, none⟩) hlt1).trans (H_e1.out k (by have := HN.out; omega))
          have hc2 := (Below.cell HS.out (p := ⟨b2, o2 + k, none⟩) hlt2).trans (H_e2.out k (by have := HM.out; omega))
          obtain ⟨p, hp⟩ : ∃ p, p = a.getD k 0 := ⟨_, rfl⟩
          obtain ⟨r, hr⟩ : ∃ r, r = b.getD k 0 := ⟨_, rfl⟩
          rw [← hp] at hc1
          rw [← hr] at hc2
          have hsn := take_eq_snoci a b k (by have := HN.out; omega) (by have := HM.out; omega) HT.out
          rw [← hp, ← hr] at hsn
          have hne : p ≠ r → a ≠ b := fun h h3 => h (by rw [hp, hr, h3])
          have Hp := Lib.hid hp
          clear hp
          have Hr := Lib.hid hr
          clear hr
          have Hsn := Lib.hid hsn
          clear hsn
          have Hne := Lib.hid hne
          clear hne
          by_cases hpq : p = r
          · subst hpq
            go_wp2_with fail
            go_quiet (fail)
            go_wp2_with fail
            go_roundw
            case rel => exact ⟨k + 1, by omega, by go_num, Lib.hid (Hsn.out trivial), Lib.hid (since_drewNi HS.out _)⟩
            case measure => simp [intOf]; omega
          · have hb0 : q = false := by rw [HQ.out]; exact decide_eq_false (Hne.out hpq)
            subst hb0
            have hst := (bne_iff_ne.2 hpq : (p != r) = true)
            go_wp2_with fail
            go_quiet (fail)
            go_wp2_with fail
            go_ret
            exact ⟨rfl, since_drewNi HS.out _⟩
        · obtain rfl : k = n := by omega
          have hb0 : q = true := by
            have h8 := HT.out
            rw [List.take_of_length_le (by have := HN.out; omega), List.take_of_length_le (by have := HM.out; omega)] at h8
            rw [HQ.out]; exact decide_eq_true h8
          subst hb0
          go_wp2_with fail
          go_ret
          exact ⟨rfl, HS.out⟩
  · have t1 : ((a.length : Int) != (b.length : Int)) = true := by rw [bne_iff_ne]; omega
    have hq2 : q = false := by rw [hq]; exact decide_eq_false (fun h => hl (by rw [h]))
    subst hq2
    obtain ⟨n, hn⟩ : ∃ n, a.length = n := ⟨_, rfl⟩
    obtain ⟨m, hm⟩ : ∃ m, b.length = m := ⟨_, rfl⟩
    rw [hn, hm] at t1
    rw [hn, hm]
    clear hx hy h1 h2 h3 h4 hl hq hle1 hle2 hn hm
    go_enter Try.func37, Try.ntmps37
    go_wp2_with fail
    go_ret
    exact ⟨rfl, HS0.out⟩
end Go.Proofs.Ytihpndfjcgodiaa
