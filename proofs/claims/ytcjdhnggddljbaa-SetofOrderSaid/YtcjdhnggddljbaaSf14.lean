/- Joined texts. -/
-- PACK: YtcjdhnggddljbaaSetof4 YtcjdhnggddljbaaSetAwake
import Derived.Test.YtcjdhnggddljbaaSf13
import Derived.Test.YtcjdhnggddljbaaSf12
import Derived.Test.YtcjdhnggddljbaaSf7

/- Package setof: Sort; and what the library's Clone, Sort and Equal answer. -/
namespace Go.Proofs.Ytcjdhnggddljbaa
open Go.RowKit Go.Sort
namespace Setof
def cf (x y : List UInt8) : Int := if ltB x y then -1 else if ltB y x then 1 else 0
theorem cf_lt (x y : List UInt8) : ltOf cf x y = ltB x y := by
  unfold ltOf cf
  cases h : ltB x y with
  | true => rfl
  | false => cases ltB y x <;> rfl
theorem cf_swo : SWO (ltOf cf) := ⟨fun x => by rw [cf_lt]; exact ltB_irrefl x, fun x y z h1 h2 => by rw [cf_lt] at *; exact ltB_trans x y z h1 h2, fun x y z h1 h2 => by rw [cf_lt] at *; exact ltB_ntrans x y z h1 h2⟩
set_option maxRecDepth 100000 in
theorem cmp_ret (x y : List UInt8) : Ret 20 #[.string (bs x), .string (bs y)] (.int .i64 (cf x y)) := by
  intro w
  have c1 := less_ret (bs x) (bs y) _ rfl
  have c2 := less_ret (bs y) (bs x) _ rfl
  rw [list_bs, list_bs] at c1 c2
  unfold cf
  obtain ⟨X, hX⟩ : ∃ X, bs x = X := ⟨_, rfl⟩
  obtain ⟨Y, hY⟩ : ∃ Y, bs y = Y := ⟨_, rfl⟩
  rw [hX, hY] at c1 c2 ⊢
  cases h1 : ltB x y with
  | true =>
    rw [h1] at c1
    clear hX hY h1
    go_enter Try.func20, Try.ntmps20
    go_wp2_with fail
    refine c1.calls ?_
    go_wp2_with fail
    go_ret
    exact ⟨rfl, rfl⟩
  | false =>
    rw [h1] at c1
    cases h2 : ltB y x with
    | true =>
      rw [h2] at c2
      clear hX hY h1 h2
      go_enter Try.func20, Try.ntmps20
      go_wp2_with fail
      refine c1.calls ?_
      go_wp2_with fail
      refine c2.calls ?_
      go_wp2_with fail
      go_ret
      exact ⟨rfl, rfl⟩
    | false =>
      rw [h2] at c2
      clear hX hY h1 h2
      go_enter Try.func20, Try.ntmps20
      go_wp2_with fail
      refine c1.calls ?_
      go_wp2_with fail
      refine c2.calls ?_
      go_wp2_with fail
      go_ret
      exact ⟨rfl, rfl⟩
/-- what a sort of a row leaves as it was -/
structure Kept (W W' : World) (g : Nat) : Prop where
  os : W'.os = W.os
  out : W'.output = W.output
  tape : W'.tape = W.tape
  size : W.heap.size ≤ W'.heap.size
  block : ∀ b, b < W.heap.size → b ≠ g → W'.heap[b]? = W.heap[b]?
theorem sorted_kept (W : World) (g n : Nat) (arr : Array (List UInt8)) (os : Array Obj) : Kept W (grow (putRow encStr (Sort.ahead W n) g 0 arr) os) g := by
  refine ⟨rfl, rfl, rfl, ?_, fun b hb hne => ?_⟩
  · show W.heap.size ≤ ((W.heap.modify g _) ++ os).size
    rw [Array.size_append, Array.size_modify]; omega
  · show ((W.heap.modify g _) ++ os)[b]? = _
    rw [Array.getElem?_append_left (by rw [Array.size_modify]; exact hb), Array.getElem?_modify, if_neg (fun e => hne e.symm)]
theorem Kept.since {W W' : World} {g : Nat} (h : Kept W W' g) {w0 : World} (h0 : Since w0 W) (hg : w0.heap.size ≤ g) : Since w0 W' := by
  obtain ⟨a, b, c, d, e⟩ := h0
  refine ⟨h.os.trans a, h.tape.trans b, h.out.trans c, Nat.le_trans d h.size, fun k hk => ?_⟩
  rw [h.block k (Nat.lt_of_lt_of_le hk d) (by omega)]
  exact e k hk
theorem holds_row {W : World} {g : Nat} {cur : Array Value} {l : List ByteArray} (hg : W.heap[g]? = some (.cells cur 9 (0, 0))) (ht : cur.toList.take l.length = l.map Value.string) : Holds encStr W g 0 (l.map dl).toArray := by
  intro j hj
  have hj2 : j < l.length := by simpa using hj
  have hs : l[j]? = some l[j] := List.getElem?_eq_getElem hj2
  have e : (l.map dl).toArray[j]! = dl l[j] := by simp [hj2]
  rw [Nat.zero_add, e]
  refine ⟨?_, ?_⟩
  · rw [row_cell hg ht hs]
    show some (Value.string l[j]) = some (Value.string (bs (dl l[j])))
    unfold dl; rw [bs_list]
  · unfold World.frozen?
    rw [hg]; simp
theorem sorted_read (W : World) (g n cap : Nat) (l : List ByteArray) (os : Array Obj) (hg : g < W.heap.size) (hH : Holds encStr W g 0 (l.map dl).toArray) (hle : l.length ≤ cap) (hcm : cap ≤ maxLen) :
    StrsS (grow (putRow encStr (Sort.ahead W n) g 0 (srt (l.map dl)).toArray) os) (.slice (some ⟨g, 0, none⟩) l.length cap) (srtB l) := by
  have hln : (srt (l.map dl)).length = l.length := by rw [(srt_perm _).length_eq, List.length_map]
  have hH2 : Holds encStr (Sort.ahead W n) g 0 (l.map dl).toArray := hH
  have hgs : g < (putRow encStr (Sort.ahead W n) g 0 (srt (l.map dl)).toArray).heap.size := by
    show g < (W.heap.modify g _).size
    rw [Array.size_modify]; exact hg
  unfold StrsS
  rw [srtB_len]
  refine ⟨by rw [List.length_map, srtB_len, Nat.mul_one], _, _, rfl, hle, hcm, Or.inr ⟨g, 0, rfl, ?_, fun i u hu => ?_⟩⟩
  · show g < ((W.heap.modify g _) ++ os).size
    rw [Array.size_append, Array.size_modify]; omega
  · have hi : i < l.length := by
      have := (List.getElem?_eq_some_iff.1 hu).1
      rw [List.length_map, srtB_len] at this
      exact this
    rw [cell?_grow _ _ _ hgs, cell?_putRow encStr (Sort.ahead W n) g 0 (l.map dl).toArray (srt (l.map dl)).toArray hH2 (by simp [hln]) i (by simp [hln]; exact hi)]
    unfold srtB at hu
    rw [List.map_map, List.getElem?_map, List.getElem?_eq_getElem (by rw [hln]; exact hi)] at hu
    rw [← hu]
    have e : (srt (l.map dl)).toArray[i]! = (srt (l.map dl))[i]'(by rw [hln]; exact hi) := by simp [hln, hi]
    rw [e]; rfl
theorem merge_srt (l : List ByteArray) : ((l.map dl).toArray.toList.mergeSort fun x y => !(ltOf cf) y x) = srt (l.map dl) := by
  unfold srt
  congr 1
  funext x y
  rw [cf_lt]
  cases h : ltB y x with
  | true => rw [decide_eq_false (fun h2 => by rw [(le_iff x y).1 h2] at h; cases h)]; rfl
  | false => rw [decide_eq_true ((le_iff x y).2 h)]; rfl
theorem srtB_nil : srtB [] = [] := List.length_eq_zero_iff.1 (by rw [srtB_len]; rfl)
/-- a sort of a row of the call's own -/
def SortP (w0 W : World) (v : Value) (l : List ByteArray) (x : Ending) (w' : World) : Prop := x = .returned (.tuple #[]) ∧ StrsS w' v (srtB l) ∧ Since w0 w' ∧ ∃ g, Kept W w' g ∧ (v.ownBlock = some g ∨ g = W.heap.size)
set_option maxRecDepth 100000 in
theorem sortf (w0 W : World) (v : Value) (l : List ByteArray) (ho : OwnS w0 W v l) (hs : Since w0 W) (hl : l.length ≤ 1000000) : Calls Try.prog 19 #[v, .func (.func 20) #[] #[]] W (SortP w0 W v l) := by
  by_cases h0 : l.length = 0
  · obtain rfl := List.length_eq_zero_iff.1 h0
    obtain ⟨A, c, rfl, _⟩ := SlR.empty ho.read rfl
    exact (AnyF.slices_SortFunc_none { Try.laysSF with } A c (.func (.func 20) #[] #[]) W).mono fun e w' ⟨he, hw⟩ => by
      subst hw
      exact ⟨he, by rw [srtB_nil]; exact ho.read, hs, w'.heap.size, ⟨rfl, rfl, rfl, Nat.le_refl _, fun _ _ _ => rfl⟩, Or.inr rfl⟩
  · obtain ⟨g, cap, cur, rfl, hgb, hgc, hle, hcm, hcs, htk⟩ := ho.form (by omega)
    have hH := holds_row hgc htk
    have hgl : g < W.heap.size := (Array.getElem?_eq_some_iff.1 hgc).1
    have hsz : (l.map dl).toArray.size = l.length := by simp
    have h := Any.slices_SortFunc_total Try.laysSF encStr (fun _ => rfl) cf cf_swo 20 #[] g 0 cap (l.map dl).toArray W (fun _ _ => by kernel_rfl)
      (fun m os dk _ x y => (cmp_ret x y _).mono fun e w' ⟨he, hw⟩ => ⟨he, 0, #[], by rw [← hw]; simp [grow, World.drewN]⟩) hH hgl (by rw [hsz]; omega) (fun x y h1 h2 => ltB_tri x y (by rw [← cf_lt]; exact h1) (by rw [← cf_lt]; exact h2))
    rw [hsz] at h
    refine h.mono fun e w' ⟨he, n, os, hw⟩ => ?_
    rw [merge_srt] at hw
    have hw2 : w' = grow (putRow encStr (Sort.ahead W n) g 0 (srt (l.map dl)).toArray) os := hw
    subst hw2
    have hk := sorted_kept W g n (srt (l.map dl)).toArray os
    exact ⟨he, sorted_read W g n cap l os hgl hH hle hcm, hk.since hs hgb, g, hk, Or.inl rfl⟩
set_option maxRecDepth 100000 in
theorem sorts (w0 W : World) (v : Value) (l : List ByteArray) (ho : OwnS w0 W v l) (hs : Since w0 W) (hl : l.length ≤ 1000000) : Calls Try.prog 17 #[v] W (SortP w0 W v l) := by
  by_cases h0 : l.length = 0
  · obtain rfl := List.length_eq_zero_iff.1 h0
    obtain ⟨A, c, rfl, _⟩ := SlR.empty ho.read rfl
    exact (Try.slices_Sort_string_none A c W).mono fun e w' ⟨he, hw⟩ => by
      subst hw
      exact ⟨he, by rw [srtB_nil]; exact ho.read, hs, w'.heap.size, ⟨rfl, rfl, rfl, Nat.le_refl _, fun _ _ _ => rfl⟩, Or.inr rfl⟩
  · obtain ⟨g, cap, cur, rfl, hgb, hgc, hle, hcm, hcs, htk⟩ := ho.form (by omega)
    have hH := holds_row hgc htk
    have hgl : g < W.heap.size := (Array.getElem?_eq_some_iff.1 hgc).1
    have hsz : (l.map dl).length = l.length := by simp
    have h := Try.slices_Sort_string g 0 cap (l.map dl) W hH hgl (by rw [hsz]; omega)
    rw [hsz] at h
    refine h.mono fun e w' ⟨he, n, os, hw⟩ => ?_
    have hw2 : w' = grow (putRow encStr (Sort.ahead W n) g 0 (srt (l.map dl)).toArray) os := hw
    subst hw2
    have hk := sorted_kept W g n (srt (l.map dl)).toArray os
    exact ⟨he, sorted_read W g n cap l os hgl hH hle hcm, hk.since hs hgb, g, hk, Or.inl rfl⟩
/-- a copy -/
def CloneP (w : World) (l : List ByteArray) (x : Ending) (w' : World) : Prop := ∃ v, x = .returned v ∧ OwnS w w' v l ∧ Below w.heap.size w w'
set_option maxRecDepth 100000 in
theorem clones (w : World) (x : Value) (l : List ByteArray) (hx : StrsS w x l) (hl : l.length ≤ 1000000) : Calls Try.prog 16 #[x] w (CloneP w l) := by
  by_cases h0 : l.length = 0
  · obtain rfl := List.length_eq_zero_iff.1 h0
    obtain ⟨A, c, rfl, _⟩ := SlR.empty hx rfl
    cases A with
    | none => exact (Try.slices_Clone_string_nil 0 c w).mono fun e w' ⟨he, hw⟩ => by subst hw; exact ⟨_, he, World.ownsRow_nil _ _ _ _, Below.refl _ _⟩
    | some a => exact (Try.slices_Clone_string_zero a c w).mono fun e w' ⟨v, he, ho, _, hb⟩ => ⟨v, he, ho, hb⟩
  · obtain ⟨b, o, c, rfl, h1, h2, h3, h4⟩ := strs_cells hx (by omega)
    have h := Try.slices_Clone_string b o l.length c l w (Nat.le_refl _) (by omega) (fun j hj => by
      have := h4 j l[j] (List.getElem?_eq_getElem hj)
      rw [this]
      simp [List.getD, hj])
    rw [List.take_length] at h
    exact h.mono fun e w' ⟨v, he, ho, _, hb⟩ => ⟨v, he, ho, hb⟩
set_option maxRecDepth 100000 in
theorem equals (w : World) (x y : Value) (l m : List ByteArray) (hx : StrsS w x l) (hy : StrsS w y m) : Calls Try.prog 11 #[x, y] w fun e w' => e = .returned (.bool (decide (l = m))) ∧ Since w w' := by
  obtain ⟨A, c, hxv, _, _⟩ := SlR.slice hx
  obtain ⟨B, d, hyv, _, _⟩ := SlR.slice hy
  have hm := SlR.le hy
  have hl := SlR.le hx
  by_cases hne : l.length = m.length
  · by_cases h0 : l.length = 0
    · have e1 := List.length_eq_zero_iff.1 h0
      have e2 := List.length_eq_zero_iff.1 (hne.symm.trans h0)
      subst e1 e2
      subst hxv hyv
      exact (Try.slices_Equal_string_empty A B c 0 d w (by decide)).mono fun e w' ⟨he, hw⟩ => by subst hw; exact ⟨he, Since.refl _⟩
    · obtain ⟨b1, o1, c1, rfl, _, _, _, g4⟩ := strs_cells hx (by omega)
      obtain ⟨b2, o2, c2, rfl, _, _, _, k4⟩ := strs_cells hy (by omega)
      have h := Try.slices_Equal_string b1 o1 l.length c1 b2 o2 m.length c2 l m w (Nat.le_refl _) (Nat.le_refl _) hl hm
        (fun j hj => by rw [g4 j l[j] (List.getElem?_eq_getElem hj)]; simp [List.getD, hj])
        (fun j hj => by rw [k4 j m[j] (List.getElem?_eq_getElem hj)]; simp [List.getD, hj])
      rw [List.take_length, List.take_length] at h
      exact h.mono fun e w' ⟨he, q, hw⟩ => by subst hw; exact ⟨he, belowN _ _⟩
  · subst hxv hyv
    exact (Try.slices_Equal_string_lens A B l.length c m.length d w hne).mono fun e w' ⟨he, hw⟩ => by
      subst hw
      refine ⟨?_, Since.refl _⟩
      rw [he, decide_eq_false (fun e => hne (by rw [e]))]
set_option maxRecDepth 100000 in
theorem sort_rd (l : List ByteArray) (hl : l.length ≤ 1000000) : MkSS 12 l (srtB l) := by
  intro w x hx
  have h1 := Lib.hid (clones w x l hx hl)
  clear hx
  go_enter Try.func12, Try.ntmps12
  go_wp2_with fail
  refine h1.out.mono ?_
  rintro e w1 ⟨v, rfl, ho, hb⟩
  have h2 := Lib.hid (sortf w w1 v l ho hb hl)
  clear ho hb h1
  go_wp2_with fail
  refine h2.out.mono ?_
  rintro e w2 ⟨rfl, hr, hs, _⟩
  have HR := Lib.hid hr
  have HS := Lib.hid hs
  clear hr hs h2
  go_wp2_with fail
  go_ret
  exact ⟨_, rfl, HR.out, HS.out⟩
set_option maxRecDepth 100000 in
theorem equals_same (w : World) (x y : Value) (l : List ByteArray) (hx : StrsS w x l) (hy : StrsS w y l) : Calls Try.prog 11 #[x, y] w fun e w' => e = .returned (.bool true) ∧ Since w w' :=
  (equals w x y l l hx hy).mono fun e w' ⟨he, hb⟩ => ⟨by rw [he, decide_eq_true rfl], hb⟩
end Setof
end Go.Proofs.Ytcjdhnggddljbaa

/- Package setof: what the laws of layer 21 call awake; the reference's Sort at whatever strings. -/
namespace Go.Proofs.Ytcjdhnggddljbaa
open Go.RowKit
namespace Setof
/-- v is nil or has an address -/
def Addressed (v : Value) : Prop := v = .slice none 0 0 ∨ ∃ a n c, v = .slice (some a) n c
def MkSA (f : Nat) (l m : List ByteArray) : Prop := ∀ w x, StrsS w x l → Addressed x → Calls Try.prog f #[x] w (PostS w m)
set_option maxRecDepth 100000 in
theorem MkSA.calls0 {f : Nat} {l m : List ByteArray} (h : MkSA f l m) {w : World} {x : Value} (hx : StrsS w x l) (ha : Addressed x) {R : Ending → World → Prop} (k : ∀ v w', StrsS w' v m → Since w w' → R (.returned v) w') : Calls Try.prog f #[x] w R :=
  (h w x hx ha).mono fun _ _ ⟨v, he, ho, hb⟩ => by subst he; exact k v _ ho hb
set_option maxRecDepth 100000 in
theorem rsort_zero_any (w : World) (a : Addr) (c : Nat) : Calls Try.prog 13 #[.slice (some a) 0 c] w (PostS w []) := by
  obtain ⟨i0, hi0, hz0, hz1, hz2⟩ := info_parts (show (Try.prog.info? 9).map (fun i => (i.zero, i.size, i.bytes)) = some (some (.string ⟨#[]⟩), 1, 16) by kernel_rfl)
  have HO0 := Lib.hid (World.ownsRow_made (e := 9) (size := 1) w #[] 0 (Nat.le_refl _) (by decide) rfl)
  have HI := Lib.hid hi0
  have HZ0 := Lib.hid hz0
  have HZ1 := Lib.hid hz1
  have HZ2 := Lib.hid hz2
  clear hi0 hz0 hz1 hz2
  go_enter Try.func13, Try.ntmps13
  go_wp2_with (at_builtin; refine wpList_append_own _ rfl _ _ 22 rfl w.heap.size 9 i0 (.string ⟨#[]⟩) 1 16 Try.underlying22 HI.out HZ0.out HZ1.out HZ2.out rfl (by decide) _ 0 [] (by rfl) HO0.out a 0 c [] (by rfl) rfl (fun j u h => by cases h) (fun u h => by cases h) (by decide) (by decide) (by simp) ?_)
  intro v0 w1 ho1 hg1 _
  have HS0 : Hid (Since w w1) := Lib.hid (by
    refine Below.grown ((Since.refl w).alloc _) hg1 (by simp) (fun k hk => ?_)
    cases hk; exact Nat.le_refl _)
  obtain ⟨A, d, hv, _⟩ := SlR.empty (SlR.own ho1) rfl
  subst hv
  clear ho1 hg1
  go_wp2_with fail
  go_loopw [3, 4, 5, 6] (fun lv ov _ _ wr => lv = .slice A 0 d ∧ ov = .slice none 0 0 ∧ Hid (Since w wr)) (fun lv _ _ _ _ => sliceLen lv)
  case atStart => exact ⟨rfl, rfl, HS0⟩
  case round =>
    obtain ⟨rfl, rfl, HS⟩ := hrel
    go_wp2_with fail
    go_ret
    exact ⟨_, rfl, StrsS.nil _, HS.out⟩
theorem rsort_rd (l : List ByteArray) (hl : l.length ≤ 100000) (hs : ∀ s ∈ l, s.size ≤ 140737488355328) : MkSA 13 l (srtB l) := by
  intro w x hx ha
  by_cases h0 : l.length = 0
  · obtain rfl := List.length_eq_zero_iff.1 h0
    rw [srtB_nil]
    obtain ⟨A, c, rfl, _⟩ := SlR.empty hx rfl
    rcases ha with ha | ⟨a, n, c2, ha⟩
    · obtain ⟨rfl, -, rfl⟩ := Value.slice.inj ha
      exact rsort_none w 0 rfl
    · obtain ⟨rfl, rfl, rfl⟩ := Value.slice.inj ha
      exact rsort_zero_any w a c
  · exact rsort_main l (by omega) hl (fun a b ha hb => rless_ret a b (hs a ha) (hs b hb) _ rfl) w x hx
theorem lit_strs (w : World) (l : List ByteArray) (n : Nat) (hn : l.length = n) (hm : n ≤ 1000) (C : Array Value) (hc : C = (l.map Value.string).toArray) (t : TypeId) : StrsS (w.alloc (.cells C t)) (.slice (some ⟨w.heap.size, 0, none⟩) n n) l := by
  subst hn
  exact SlR.lit w 1 l.length (l.map Value.string) (by simp) (by unfold maxLen; omega) C hc t
set_option maxRecDepth 100000 in
set_option maxHeartbeats 4000000 in
theorem awake_core (L : List ByteArray) (hL : L = [⟨#[97]⟩, ⟨#[98]⟩, ⟨#[98]⟩]) (c1 : Ret 9 #[.string ⟨#[97]⟩, .string ⟨#[97, 98]⟩] (.bool true)) (c2 : Ret 9 #[.string ⟨#[97, 0]⟩, .string ⟨#[97]⟩] (.bool false)) (c3 : Ret 9 #[.string ⟨#[97]⟩, .string ⟨#[97, 0]⟩] (.bool true))
    (c4 : RdS 14 [⟨#[97]⟩, ⟨#[98]⟩] (fun x => #[x]) (.bool true)) (c5 : MkSS 12 [⟨#[98]⟩, ⟨#[97]⟩, ⟨#[98]⟩] L) : Mak 6 #[] (.bool true) := by
  intro w
  have HS := Lib.hid (Since.refl w)
  go_enter Try.func6, Try.ntmps6
  go_wp2_with fail
  refine c1.calls ?_
  go_wp2_with fail
  refine c2.calls ?_
  go_wp2_with fail
  refine c3.calls ?_
  go_wp2_with fail
  refine c4.calls0 (lit_strs w [⟨#[97]⟩, ⟨#[98]⟩] 2 rfl (by decide) _ rfl _) ?_
  intro w1 h1
  replace HS := Lib.hid ((HS.out.alloc _).step h1)
  clear h1
  go_wp2_with fail
  refine c5.calls0 (lit_strs w1 [⟨#[98]⟩, ⟨#[97]⟩, ⟨#[98]⟩] 3 rfl (by decide) _ rfl _) ?_
  intro v w2 hv h2
  replace HS := Lib.hid ((HS.out.alloc _).step h2)
  have hl2 := lit_strs w2 [⟨#[97]⟩, ⟨#[98]⟩, ⟨#[98]⟩] 3 rfl (by decide) #[.string ⟨#[97]⟩, .string ⟨#[98]⟩, .string ⟨#[98]⟩] rfl 9
  have hv2 : StrsS (w2.alloc (.cells #[.string ⟨#[97]⟩, .string ⟨#[98]⟩, .string ⟨#[98]⟩] 9)) v L := StrsS.since hv ((Since.refl w2).alloc _)
  have he := Lib.hid (equals _ _ _ _ _ hv2 hl2)
  have HT : Hid (decide (L = [⟨#[97]⟩, ⟨#[98]⟩, ⟨#[98]⟩]) = true) := Lib.hid (decide_eq_true hL)
  clear h2 hv hl2 hv2 hL
  go_wp2_with fail
  refine he.out.mono ?_
  rintro e w3 ⟨rfl, h3⟩
  rw [HT.out]
  replace HS := Lib.hid ((HS.out.alloc _).step h3)
  clear h3 he
  go_wp2_with fail
  go_ret
  exact ⟨rfl, HS.out⟩
theorem awake_mak : Mak 6 #[] (.bool true) :=
  awake_core _ (srtB_of [⟨#[98]⟩, ⟨#[97]⟩, ⟨#[98]⟩] [⟨#[97]⟩, ⟨#[98]⟩, ⟨#[98]⟩] (List.Perm.swap _ _ _) (by
    show List.Pairwise up [[97], [98], [98]]
    have e1 : up [97] [98] := by unfold up; decide
    have e2 : up [98] [98] := by unfold up; decide
    simp [e1, e2])).symm (less_ret _ _ true (by decide)) (less_ret _ _ false (by decide)) (less_ret _ _ true (by decide)) (rises_rd _) (sort_rd _ (by decide))
/-- strings among the arguments -/
theorem one_cell (l : List ByteArray) : l.flatMap (fun s => [Value.string s]) = l.map Value.string := by
  induction l with
  | nil => rfl
  | cons a l ih => rw [List.flatMap_cons, ih]; rfl
set_option maxRecDepth 100000 in
theorem strs_arg {H : Type} {enc : TypeId × Value → H} {w : World} {sp : Nat → Bool} {held : Bool} {fuel : Nat} {A : Option Addr} {n c : Nat} {d : DataW H} {ps : List MemPlace}
    (hf : DataW.trod enc Try.prog w 0 sp held fuel 22 (Value.slice A n c).cells.toList = some (d, ps)) (hlt : ∀ x ∈ ps, x.block < w.heap.size) :
    ∃ l : List ByteArray, (StrsS w (.slice A n c) l ∧ Addressed (.slice A n c)) ∧ n = l.length ∧ ∀ s ∈ l, s.size ≤ maxLen := by
  have hf2 : DataW.trod enc Try.prog w 0 sp held fuel 22 [Value.slice A n c] = some (d, ps) := by simpa [Value.cells] using hf
  obtain ⟨l, h1, h2, h3⟩ := arg_elems (k := 1) (fun s : ByteArray => [Value.string s]) (fun s => s.size ≤ maxLen) Try.underlying22 (by kernel_rfl) (by decide) (fun _ => rfl)
    (fun m cs z hz _ _ => by
      obtain ⟨x, e, _, hw⟩ := DataW.trod_string Try.underlying9 hz
      exact ⟨x, e, hw⟩) hf2 hlt
  have hfm : l.flatMap (fun s => [Value.string s]) = l.map Value.string := one_cell l
  refine ⟨l, ⟨?_, ?_⟩, h1, h3⟩
  · subst h1
    rw [hfm] at h2
    exact h2
  · rcases Go.Deep.open_slice Try.underlying22 hf2 with ⟨hcs, _⟩ | ⟨a, len, cap, m, q, D, Pl, hcs, _⟩
    · simp at hcs
      obtain ⟨rfl, rfl, rfl⟩ := hcs
      exact Or.inl rfl
    · simp at hcs
      obtain ⟨rfl, rfl, rfl⟩ := hcs
      exact Or.inr ⟨a, n, c, rfl⟩
end Setof
end Go.Proofs.Ytcjdhnggddljbaa
