/- Joined texts. -/
-- PACK: YtapjmbjoklppnaaGreatDoorRefTempl YtapjmbjoklppnaaGreatDoorTemplM
import Derived.Test.YtapjmbjoklppnaaGreatDoorFs23
import Derived.Deep.RegionHeld3

/- The reference of templ: Encode. -/
namespace Go.Proofs.YtapjmbjoklppnaaGreatDoor
open Go.RowKit
namespace Templ
open Att
/-- what stands while a round's calls are made: an attribute among those that were handed in -/
structure KA (WB : World) (b q : Nat) (t : Int) (s : ByteArray) (W : World) : Prop where
  since : Since WB W
  c0 : W.cell? ⟨b, q, none⟩ = some (.int .i64 t)
  c1 : W.cell? ⟨b, q + 1, none⟩ = some (.string s)
  lb : b < W.heap.size
theorem ka_step {WB : World} {b q : Nat} {t : Int} {s : ByteArray} {W W' : World} (hb : Below W.heap.size W W') (h : Hid (KA WB b q t s W)) : Hid (KA WB b q t s W') :=
  Lib.hid ⟨h.out.since.step hb, (hb.cell (p := ⟨b, q, none⟩) h.out.lb).trans h.out.c0, (hb.cell (p := ⟨b, q + 1, none⟩) h.out.lb).trans h.out.c1, Nat.lt_of_lt_of_le h.out.lb hb.size⟩
theorem ka_drew {WB : World} {b q : Nat} {t : Int} {s : ByteArray} {W : World} (h : Hid (KA WB b q t s W)) : Hid (KA WB b q t s W.drew) := ka_step (Below.drew (Below.refl _ _)) h
theorem ka3 {WB : World} {b q : Nat} {t : Int} {s : ByteArray} {W : World} (h : Hid (KA WB b q t s W)) : Hid (KA WB b q t s W) ∧ W.cell? ⟨b, q, none⟩ = some (.int .i64 t) ∧ W.cell? ⟨b, q + 1, none⟩ = some (.string s) := ⟨h, h.out.c0, h.out.c1⟩
set_option maxRecDepth 100000 in
theorem rdig_nil : RdA 82 [] (fun x => #[x]) (.string ⟨#[]⟩) := by
  intro w x hx
  have c4 : Mak 84 #[.string ⟨#[]⟩] (.string ⟨#[]⟩) := fun W => RefDig.hex_any ⟨#[]⟩ W (by decide) ⟨#[]⟩ rfl
  have HS := Lib.hid (Since.refl w)
  obtain ⟨A, c, rfl, _⟩ := hx.empty rfl
  clear hx
  go_enter Tryz.func82, Tryz.ntmps82
  go_wp2_with fail
  go_loopw [3, 4] (fun s i wr => i = .int .i64 0 ∧ s = .string ⟨#[]⟩ ∧ Hid (Since w wr)) (fun _ i _ => 0 - (intOf i).toNat)
  case atStart => exact ⟨rfl, rfl, HS⟩
  case round =>
    obtain ⟨rfl, rfl, HS⟩ := hrel
    go_wp2_with fail
    refine (c4.calls0) ?_
    intro w2 h2
    replace HS := Lib.hid (HS.out.step (by first | exact h2 | exact (Since.alloc (Since.refl _) _).step h2 | exact (Since.alloc (Since.alloc (Since.refl _) _) _).step h2 | exact (Since.drew (Since.refl _)).step h2 | exact (Since.alloc (Since.alloc (Since.alloc (Since.refl _) _) _) _).step h2))
    clear h2
    go_wp2_with fail
    go_ret
    exact ⟨rfl, HS.out⟩
set_option maxRecDepth 100000 in
set_option maxHeartbeats 16000000 in
theorem rdig_some (l : List A2) (h0 : 0 < l.length) (hok : attOk l = true) (X : ByteArray) (hX : X = bs (Dig.hexL (rawT l))) : RdA 82 l (fun x => #[x]) (.string X) := by
  intro w x hx
  obtain ⟨h32, hall⟩ := attOk_all l hok
  obtain ⟨b, o, c, rfl, h1, h2, h3, h4⟩ := hx.form h0
  have hrl := rawT_len l (fun p hp => (hall p hp).2.2)
  have c4 : Mak 84 #[.string (bs (rawT l))] (.string X) := fun W => RefDig.hex_any (bs (rawT l)) W (by rw [size_bs]; omega) X hX
  obtain ⟨n, hn⟩ : ∃ n, n = l.length := ⟨_, rfl⟩
  rw [← hn] at h0 h32 h1 hrl ⊢
  have HC := Lib.hid h4
  have HN := Lib.hid hn
  have HALL := Lib.hid hall
  clear h4 hx hn hall hX hok
  go_enter Tryz.func82, Tryz.ntmps82
  go_wp2_with fail
  go_loopw [3, 4] (fun sv i wr => ∃ (k : Nat) (S : ByteArray), k ≤ n ∧ i = .int .i64 (k : Int) ∧ sv = .string S ∧ S.size ≤ 258 * k ∧ Hid (S = bs (rawT (l.take k))) ∧ Hid (Since w wr)) (fun _ i _ => n - (intOf i).toNat)
  case atStart => exact ⟨0, ⟨#[]⟩, by omega, rfl, rfl, Nat.le_refl _, Lib.hid rfl, Lib.hid (Since.refl w)⟩
  case round =>
    obtain ⟨k, S, hk, rfl, rfl, hSk, HSS, HS⟩ := hrel
    by_cases hlt : k < n
    · obtain ⟨⟨t, s⟩, hs⟩ : ∃ s, l[k]? = some s := ⟨l[k]'(by rw [← HN.out]; exact hlt), List.getElem?_eq_getElem _⟩
      obtain ⟨m0, m1⟩ := HC.out k _ hs
      replace m0 : wr.cell? ⟨b, o + k * 2, none⟩ = some (.int .i64 t) := (Below.cell HS.out (p := ⟨b, o + k * 2, none⟩) h3).trans m0
      replace m1 : wr.cell? ⟨b, o + k * 2 + 1, none⟩ = some (.string s) := (Below.cell HS.out (p := ⟨b, o + k * 2 + 1, none⟩) h3).trans m1
      obtain ⟨q1, q2, q3⟩ := HALL.out (t, s) (List.mem_of_getElem? hs)
      replace q1 : 1 ≤ t := q1
      replace q2 : t ≤ 65535 := q2
      replace q3 : s.size ≤ 255 := q3
      have hpt := pts_snoc l k t s hs
      clear hs
      have c2 : Mak 85 #[.int .u64 t, .int .i64 2] (.string (bs (RefOct.low t 2))) := fun W => RefOct.put_mid t 2 W (by omega) (by omega) (by decide) (by decide)
      have c3 : Mak 85 #[.int .u64 (s.size : Int), .int .i64 1] (.string (bs (RefOct.low (s.size : Int) 1))) := fun W => RefOct.put_mid (s.size : Int) 1 W (by omega) (by omega) (by decide) (by decide)
      obtain ⟨P, hP⟩ : ∃ P, bs (RefOct.low t 2) = P := ⟨_, rfl⟩
      obtain ⟨Q, hQ⟩ : ∃ Q, bs (RefOct.low (s.size : Int) 1) = Q := ⟨_, rfl⟩
      have hPs : P.size = 2 := by rw [← hP, size_bs, RefOct.low_len]
      have hQs : Q.size = 1 := by rw [← hQ, size_bs, RefOct.low_len]
      rw [hP] at c2 hpt
      rw [hQ] at c3 hpt
      have e1 : IntKind.u64.wrap t = t := IntWalk.u64_in _ (by omega)
      have e2 : IntKind.u64.wrap (s.size : Int) = (s.size : Int) := IntWalk.u64_in _ (by omega)
      have i1 : (0 : Int) ≤ (k : Int) := by omega
      have i2 : (k : Int) < (n : Int) := by omega
      have HN2 : Hid (S ++ P ++ Q ++ s = bs (rawT (l.take (k + 1)))) := Lib.hid (by
        unfold rawT
        rw [hpt, cat_app, HSS.out]
        apply ba_ext
        simp only [app_list, list_bs, rawT, Oct.cat]
        simp)
      have k1 : ¬ 9223372036854775807 < S.size + 2 := by omega
      have k2 : ¬ 9223372036854775807 < S.size + 2 + 1 := by omega
      have k3 : ¬ 9223372036854775807 < S.size + 2 + 1 + s.size := by omega
      have hsz : (S ++ P ++ Q ++ s).size ≤ 258 * (k + 1) := by simp only [ByteArray.size_append]; omega
      obtain ⟨WB, hWB⟩ : ∃ WB, WB = wr := ⟨_, rfl⟩
      have hka : Hid (KA WB b (o + k * 2) t s wr) := Lib.hid ⟨by rw [hWB]; exact Since.refl _, m0, m1, Nat.lt_of_lt_of_le h3 (Below.size HS.out)⟩
      replace HS : Hid (Since w WB) := Lib.hid (by rw [hWB]; exact HS.out)
      clear hWB m0 m1 hP hQ hpt HSS
      go_wp2_with fail
      go_region_held3 (fun W => Hid (KA WB b (o + k * 2) t s W) ∧ W.cell? ⟨b, o + k * 2, none⟩ = some (.int .i64 t) ∧ W.cell? ⟨b, o + k * 2 + 1, none⟩ = some (.string s))
        (first | exact ka3 (by assumption) | exact ka3 (ka_drew (by assumption)))
        (first
          | (go_at_call 85; with_reducible refine c2.calls0 ?_; intro wy hby; have hpy := ka_step hby (by first | assumption | exact ka_drew (by assumption)); clear hby)
          | (go_at_call 85; with_reducible refine c3.calls0 ?_; intro wy hby; have hpy := ka_step hby (by first | assumption | exact ka_drew (by assumption)); clear hby))
      all_goals
        have HS7 := Lib.hid (HS.out.step hpy.out.since)
        clear hpy
        go_wp2_with fail
        go_roundw
        case rel => exact ⟨k + 1, _, by omega, by go_num, rfl, hsz, HN2, Lib.hid (by first | exact HS7.out | exact Since.drew HS7.out)⟩
        case measure => simp [intOf]; omega
    · obtain rfl : n = k := by omega
      have hss := HSS.out
      rw [HN.out, List.take_length] at hss
      rw [← hss] at c4
      clear hss HSS
      go_wp2_with fail
      refine (c4.calls0) ?_
      intro w2 h2
      replace HS := Lib.hid (HS.out.step (by first | exact h2 | exact (Since.alloc (Since.refl _) _).step h2 | exact (Since.alloc (Since.alloc (Since.refl _) _) _).step h2 | exact (Since.drew (Since.refl _)).step h2 | exact (Since.alloc (Since.alloc (Since.alloc (Since.refl _) _) _) _).step h2))
      clear h2
      go_wp2_with fail
      go_ret
      exact ⟨rfl, HS.out⟩
theorem rdig_rd (l : List A2) (hok : attOk l = true) : RdA 82 l (fun x => #[x]) (.string (encT l)) := by
  have hX : encT l = bs (Dig.hexL (rawT l)) := by unfold encT; rw [if_pos hok]
  by_cases h0 : l.length = 0
  · obtain rfl := List.length_eq_zero_iff.1 h0
    exact rdig_nil
  · exact rdig_some l (by omega) hok _ hX
set_option maxRecDepth 100000 in
theorem renc_no (l : List A2) (E : Int) (hE : E ≠ 0) (c1 : RdA 81 l (fun x => #[x]) (.int .i64 E)) : RdA 55 l (fun x => #[x]) (.tuple #[.string ⟨#[]⟩, .int .i64 E]) := by
  intro w x hx
  have t1 : (E == 0) = false := beq_eq_false_iff_ne.2 hE
  have HX := Lib.hid hx
  have HS := Lib.hid (Since.refl w)
  clear hx hE
  go_enter Tryz.func55, Tryz.ntmps55
  go_wp2_with fail
  refine (c1.calls0 HX.out) ?_
  intro w1 h1
  replace HS := Lib.hid (HS.out.step (by first | exact h1 | exact (Since.alloc (Since.refl _) _).step h1 | exact (Since.alloc (Since.alloc (Since.refl _) _) _).step h1 | exact (Since.drew (Since.refl _)).step h1 | exact (Since.alloc (Since.alloc (Since.alloc (Since.refl _) _) _) _).step h1))
  clear h1
  go_wp2_with fail
  go_ret2
  exact ⟨rfl, HS.out⟩
set_option maxRecDepth 100000 in
theorem renc_yes (l : List A2) (X : ByteArray) (c1 : RdA 81 l (fun x => #[x]) (.int .i64 0)) (c2 : RdA 82 l (fun x => #[x]) (.string X)) : RdA 55 l (fun x => #[x]) (.tuple #[.string X, .int .i64 0]) := by
  intro w x hx
  have HX := Lib.hid hx
  have HS := Lib.hid (Since.refl w)
  clear hx
  go_enter Tryz.func55, Tryz.ntmps55
  go_wp2_with fail
  refine (c1.calls0 HX.out) ?_
  intro w1 h1
  replace HX := Lib.hid (HX.out.since (by first | exact h1 | exact (Since.alloc (Since.refl _) _).step h1 | exact (Since.alloc (Since.alloc (Since.refl _) _) _).step h1 | exact (Since.drew (Since.refl _)).step h1 | exact (Since.alloc (Since.alloc (Since.alloc (Since.refl _) _) _) _).step h1))
  replace HS := Lib.hid (HS.out.step (by first | exact h1 | exact (Since.alloc (Since.refl _) _).step h1 | exact (Since.alloc (Since.alloc (Since.refl _) _) _).step h1 | exact (Since.drew (Since.refl _)).step h1 | exact (Since.alloc (Since.alloc (Since.alloc (Since.refl _) _) _) _).step h1))
  clear h1
  go_wp2_with fail
  refine (c2.calls0 HX.out) ?_
  intro w2 h2
  replace HS := Lib.hid (HS.out.step (by first | exact h2 | exact (Since.alloc (Since.refl _) _).step h2 | exact (Since.alloc (Since.alloc (Since.refl _) _) _).step h2 | exact (Since.drew (Since.refl _)).step h2 | exact (Since.alloc (Since.alloc (Since.alloc (Since.refl _) _) _) _).step h2))
  clear h2
  go_wp2_with fail
  go_ret2
  exact ⟨rfl, HS.out⟩
theorem rencode_rd (l : List A2) : RdA 55 l (fun x => #[x]) (encV l) := by
  unfold encV
  by_cases hok : attOk l = true
  · have hE := (attE_zero l).2 hok
    rw [hE]
    exact renc_yes l _ (by rw [← hE]; exact rcheck_rd l _ rfl) (rdig_rd l hok)
  · have hE : attE l ≠ 0 := fun h => hok ((attE_zero l).1 h)
    have hX : encT l = ⟨#[]⟩ := by unfold encT; rw [if_neg hok]
    rw [hX]
    exact renc_no l _ hE (rcheck_rd l _ rfl)
end Templ
end Go.Proofs.YtapjmbjoklppnaaGreatDoor

/- Package templ: plain mathematics: attributes out of bytes. -/
namespace Go.Proofs.YtapjmbjoklppnaaGreatDoor
open Go.RowKit
namespace Templ
open Att
def prsF : Nat → List UInt8 → Option (List A2)
  | 0, l => if l.length = 0 then some [] else none
  | f + 1, l => if l.length = 0 then some [] else if l.length < 3 then none else if l.length < 3 + (l.getD 2 0).toNat then none else
    match prsF f (l.drop (3 + (l.getD 2 0).toNat)) with
    | none => none
    | some L => some ((256 * ((l.getD 0 0).toNat : Int) + ((l.getD 1 0).toNat : Int), bs ((l.drop 3).take (l.getD 2 0).toNat)) :: L)
theorem prsF_fuel : ∀ (f g : Nat) (l : List UInt8), l.length ≤ f → l.length ≤ g → prsF f l = prsF g l := by
  intro f
  induction f with
  | zero =>
    intro g l h1 h2
    cases g with
    | zero => rfl
    | succ g => unfold prsF; rw [if_pos (by omega), if_pos (by omega)]
  | succ f ih =>
    intro g l h1 h2
    by_cases h0 : l.length = 0
    · cases g with
      | zero => unfold prsF; rw [if_pos h0, if_pos h0]
      | succ g => unfold prsF; rw [if_pos h0, if_pos h0]
    · obtain ⟨g, rfl⟩ : ∃ g', g = g' + 1 := ⟨g - 1, by omega⟩
      unfold prsF
      rw [if_neg h0, if_neg h0]
      split
      · rfl
      · split
        · rfl
        · rw [ih g (l.drop (3 + (l.getD 2 0).toNat)) (by rw [List.length_drop]; omega) (by rw [List.length_drop]; omega)]
/-- the attributes that stand in bytes, one behind the other -/
def prs (l : List UInt8) : Option (List A2) := prsF l.length l
theorem prs_nil : prs [] = some [] := rfl
theorem prs_short (l : List UInt8) (h0 : 0 < l.length) (h : l.length < 3) : prs l = none := by
  unfold prs
  obtain ⟨f, hf⟩ : ∃ f, l.length = f + 1 := ⟨l.length - 1, by omega⟩
  rw [hf]; unfold prsF
  rw [if_neg (by omega), if_pos h]
theorem prs_cut (l : List UInt8) (h : 3 ≤ l.length) (h2 : l.length < 3 + (l.getD 2 0).toNat) : prs l = none := by
  unfold prs
  obtain ⟨f, hf⟩ : ∃ f, l.length = f + 1 := ⟨l.length - 1, by omega⟩
  rw [hf]; unfold prsF
  rw [if_neg (by omega), if_neg (by omega), if_pos h2]
theorem prs_step (l : List UInt8) (h : 3 ≤ l.length) (h2 : 3 + (l.getD 2 0).toNat ≤ l.length) : prs l = match prs (l.drop (3 + (l.getD 2 0).toNat)) with
    | none => none
    | some L => some ((256 * ((l.getD 0 0).toNat : Int) + ((l.getD 1 0).toNat : Int), bs ((l.drop 3).take (l.getD 2 0).toNat)) :: L) := by
  unfold prs
  obtain ⟨f, hf⟩ : ∃ f, l.length = f + 1 := ⟨l.length - 1, by omega⟩
  rw [hf]
  conv => lhs; unfold prsF
  rw [if_neg (by omega), if_neg (by omega), if_neg (by omega), prsF_fuel f (l.drop (3 + (l.getD 2 0).toNat)).length _ (by rw [List.length_drop]; omega) (Nat.le_refl _)]
/-- what is left is s', what was read L -/
def goes (l : List UInt8) (L : List A2) (r : List UInt8) : Prop := prs l = match prs r with | none => none | some M => some (L ++ M)
theorem goes_start (l : List UInt8) : goes l [] l := by unfold goes; cases prs l <;> rfl
theorem goes_end {l : List UInt8} {L : List A2} (h : goes l L []) : prs l = some L := by unfold goes at h; rw [h, prs_nil]; simp
theorem goes_none {l r : List UInt8} {L : List A2} (h : goes l L r) (hr : prs r = none) : prs l = none := by unfold goes at h; rw [h, hr]
theorem goes_step {l r : List UInt8} {L : List A2} (h : goes l L r) (h1 : 3 ≤ r.length) (h2 : 3 + (r.getD 2 0).toNat ≤ r.length) : goes l (L ++ [(256 * ((r.getD 0 0).toNat : Int) + ((r.getD 1 0).toNat : Int), bs ((r.drop 3).take (r.getD 2 0).toNat))]) (r.drop (3 + (r.getD 2 0).toNat)) := by
  unfold goes at *
  rw [h, prs_step r h1 h2]
  cases prs (r.drop (3 + (r.getD 2 0).toNat)) with
  | none => rfl
  | some M => simp
/-- the attributes whose digits a text has -/
def decO (t : List UInt8) : Option (List A2) := if Dig.unB t then prs (Dig.unS t).data.toList else none
def pL : Option (List A2) → List A2
  | some L => if attOk L then L else []
  | none => []
def pE : Option (List A2) → Int
  | some L => attE L
  | none => 5
theorem p_bad (L : List A2) (h2 : attE L ≠ 0) : pL (some L) = [] := if_neg (fun h3 => h2 ((attE_zero L).2 h3))
theorem p_good (L : List A2) (h2 : attE L = 0) : pL (some L) = L := if_pos ((attE_zero L).1 h2)
theorem attE_or (L : List A2) : attE L = 0 ∨ attE L = 11 := by unfold attE; cases attOk L <;> simp
/-- there and back -/
theorem low2 (n : Int) (h0 : 0 ≤ n) (h : n ≤ 65535) : RefOct.low n 2 = [UInt8.ofNat (n / 256).toNat, UInt8.ofNat (n % 256).toNat] := by
  have h1 : (2 : Int) ^ (8 * 1) = 256 := by decide
  have h2 : (2 : Int) ^ (8 * 0) = 1 := by decide
  show [UInt8.ofNat (n / 2 ^ (8 * 1) % 256).toNat, UInt8.ofNat (n / 2 ^ (8 * 0) % 256).toNat] = _
  rw [h1, h2, Int.ediv_one]
  have : n / 256 % 256 = n / 256 := by omega
  rw [this]
theorem low1 (n : Int) (h0 : 0 ≤ n) (h : n ≤ 255) : RefOct.low n 1 = [UInt8.ofNat n.toNat] := by
  have h2 : (2 : Int) ^ (8 * 0) = 1 := by decide
  show [UInt8.ofNat (n / 2 ^ (8 * 0) % 256).toNat] = _
  rw [h2, Int.ediv_one]
  have : n % 256 = n := by omega
  rw [this]
theorem u8_nat (n : Nat) (h : n < 256) : (UInt8.ofNat n).toNat = n := by rw [UInt8.toNat_ofNat']; exact Nat.mod_eq_of_lt h
theorem prs_raw (l : List A2) (h : ∀ p ∈ l, 1 ≤ p.1 ∧ p.1 ≤ 65535 ∧ p.2.size ≤ 255) : prs (rawT l) = some l := by
  induction l with
  | nil => rfl
  | cons p l ih =>
    have h1 := ih (fun q hq => h q (List.mem_cons_of_mem _ hq))
    obtain ⟨a, b, c⟩ := h p List.mem_cons_self
    have hd : p.2.data.toList.length = p.2.size := rfl
    have e : rawT (p :: l) = UInt8.ofNat (p.1 / 256).toNat :: UInt8.ofNat (p.1 % 256).toNat :: UInt8.ofNat p.2.size :: (p.2.data.toList ++ rawT l) := by
      rw [rawT_cons, low2 p.1 (by omega) b, low1 (p.2.size : Int) (by omega) (by omega)]
      rfl
    have hz : ((rawT (p :: l)).getD 2 0).toNat = p.2.size := by rw [e]; exact u8_nat _ (by omega)
    have h3 : 3 ≤ (rawT (p :: l)).length := by rw [e]; simp
    have h4 : 3 + ((rawT (p :: l)).getD 2 0).toNat ≤ (rawT (p :: l)).length := by rw [hz, e]; simp [hd]; omega
    rw [prs_step _ h3 h4, hz]
    have hdr : (rawT (p :: l)).drop (3 + p.2.size) = rawT l := by
      rw [e, ← List.drop_drop]
      show ((p.2.data.toList ++ rawT l)).drop p.2.size = _
      rw [← hd, List.drop_left]
    have htk : ((rawT (p :: l)).drop 3).take p.2.size = p.2.data.toList := by
      rw [e]
      show ((p.2.data.toList ++ rawT l)).take p.2.size = _
      rw [← hd, List.take_left]
    have h0 : (((rawT (p :: l)).getD 0 0).toNat : Int) = p.1 / 256 := by rw [e]; show ((UInt8.ofNat (p.1 / 256).toNat).toNat : Int) = _; rw [u8_nat _ (by omega)]; omega
    have h5 : (((rawT (p :: l)).getD 1 0).toNat : Int) = p.1 % 256 := by rw [e]; show ((UInt8.ofNat (p.1 % 256).toNat).toNat : Int) = _; rw [u8_nat _ (by omega)]; omega
    rw [hdr, h1, htk, h0, h5, bs_list]
    show some ((256 * (p.1 / 256) + p.1 % 256, p.2) :: l) = _
    rw [show 256 * (p.1 / 256) + p.1 % 256 = p.1 from by omega]
theorem raw_prs (l : List UInt8) (L : List A2) (h : prs l = some L) : rawT L = l := by
  have key : ∀ (n : Nat) (l : List UInt8) (L : List A2), l.length ≤ n → prs l = some L → rawT L = l := by
    intro n
    induction n with
    | zero =>
      intro l L hn h
      obtain rfl := List.length_eq_zero_iff.1 (show l.length = 0 by omega)
      rw [prs_nil] at h; cases h; rfl
    | succ n ih =>
      intro l L hn h
      by_cases h0 : l.length = 0
      · obtain rfl := List.length_eq_zero_iff.1 h0
        rw [prs_nil] at h; cases h; rfl
      by_cases h3 : l.length < 3
      · rw [prs_short l (by omega) h3] at h; cases h
      by_cases h4 : l.length < 3 + (l.getD 2 0).toNat
      · rw [prs_cut l (by omega) h4] at h; cases h
      rw [prs_step l (by omega) (by omega)] at h
      cases hr : prs (l.drop (3 + (l.getD 2 0).toNat)) with
      | none => rw [hr] at h; cases h
      | some M =>
        rw [hr] at h
        cases h
        have := ih _ M (by rw [List.length_drop]; omega) hr
        match l, h3 with
        | a :: b :: c :: r, _ =>
          have ha := a.toNat_lt
          have hb := b.toNat_lt
          have hc := c.toNat_lt
          rw [rawT_cons, this]
          show RefOct.low (256 * (a.toNat : Int) + (b.toNat : Int)) 2 ++ (RefOct.low ((bs (r.take c.toNat)).size : Int) 1 ++ (r.take c.toNat ++ (a :: b :: c :: r).drop (3 + c.toNat))) = _
          have hl : (r.take c.toNat).length = c.toNat := by
            have h9 : ¬ (a :: b :: c :: r).length < 3 + c.toNat := h4
            simp at h9
            rw [List.length_take]; omega
          rw [low2 _ (by omega) (by omega), size_bs, hl, low1 _ (by omega) (by omega), ← List.drop_drop]
          have e1 : ((256 * (a.toNat : Int) + (b.toNat : Int)) / 256).toNat = a.toNat := by omega
          have e2 : ((256 * (a.toNat : Int) + (b.toNat : Int)) % 256).toNat = b.toNat := by omega
          rw [e1, e2, Int.toNat_natCast]
          simp only [UInt8.ofNat_toNat]
          show a :: b :: c :: (r.take c.toNat ++ r.drop c.toNat) = _
          rw [List.take_append_drop]
        | [], h3 => exact absurd (by decide) h3
        | [_], h3 => exact absurd (by simp) h3
        | [_, _], h3 => exact absurd (by simp) h3
  exact key l.length l L (Nat.le_refl _) h
end Templ
end Go.Proofs.YtapjmbjoklppnaaGreatDoor
