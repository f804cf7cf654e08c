/- The law OctetsXor: for all texts a, b and lists of texts, Xor and Join answer as the reference does; no conditions. -/
import Derived.Test.YtldipjlepofdgaaRows
import Derived.WalkKit
import Derived.ProofKit
import Derived.OpenShut
import Derived.SliceStrings
import Derived.SizedLaws
import Derived.Lib.Hide
import Derived.Test.YtldipjlepofdgaaBase
import Derived.Test.YtldipjlepofdgaaStr
import Derived.Test.YtldipjlepofdgaaOct
import Derived.Test.YtldipjlepofdgaaJoin
import Derived.Test.YtldipjlepofdgaaOctAwake
import Derived.Test.YtldipjlepofdgaaRefOct2
namespace Go.Proofs.Ytldipjlepofdgaa.octetsXor
open Go.ChangeShapes Go.WideShapes Go.ChangeAt Go.RowKit

set_option maxHeartbeats 400000 in
theorem join_nil (A : Option Addr) (c : Nat) (w : World) : Calls Try.prog 30 #[.slice A 0 c] w fun e w' => e = .returned (.string ⟨#[]⟩) ∧ Below w.heap.size w w' := by
  have hmk : ∀ w : World, (Instr.makeSlice 59 (.int .i64 0) (.int .i64 0)).run Try.prog w = .ok (.slice (some ⟨w.heap.size, 0, none⟩) 0 0) (w.alloc (.cells (madeCells #[.int .u8 0] 0) 5)) := fun w =>
    run_make_row' (P := Try.prog) 59 5 (.int .u8 0) 1 Try.underlying59 info5 rfl .i64 .i64 0 (by omega) (by omega) w
  have g := run_convert_bytes_arg (P := Try.prog) (w.alloc (.cells (madeCells #[.int .u8 0] 0) 5)) 59 5 Try.underlying59 Try.underlying5 w.heap.size 0 0 0 [] rfl (fun i hi => by omega) 9 Try.underlying9
  go_enter Try.func30, Try.ntmps30
  go_wp2
  go_loop [3, 12] (fun t i => i = .int .i64 0 ∧ t = .int .i64 0) (fun _ _ => 0)
  case atStart => exact ⟨rfl, rfl⟩
  case round =>
    obtain ⟨rfl, rfl⟩ := hrel
    go_wp2
    go_loop [7, 25] (fun t i => i = .int .i64 0 ∧ t = .int .i64 0) (fun _ _ => 0)
    case atStart => exact ⟨rfl, rfl⟩
    case round =>
      obtain ⟨rfl, rfl⟩ := hrel
      go_wp2
      go_ret
      exact ⟨rfl, (Below.refl _ _).alloc (Nat.le_refl _) _⟩

set_option maxHeartbeats 400000 in
theorem rjoin_nil (A : Option Addr) (c : Nat) (w : World) : Calls Try.prog 31 #[.slice A 0 c] w fun e w' => e = .returned (.string ⟨#[]⟩) ∧ Below w.heap.size w w' := by
  go_enter Try.func31, Try.ntmps31
  go_wp2
  go_loop [3, 4] (fun o i => i = .int .i64 0 ∧ o = .string ⟨#[]⟩) (fun _ _ => 0)
  case atStart => exact ⟨rfl, rfl⟩
  case round =>
    obtain ⟨rfl, rfl⟩ := hrel
    go_wp2
    go_ret
    exact ⟨rfl, Below.refl _ _⟩

/-- what a slice of strings reads as, in whatever later world -/
def Parts (w : World) (A : Option Addr) (n : Nat) (ss : List ByteArray) : Prop := n = ss.length ∧ (0 < n → ∃ ad, A = some ad ∧ ad.block < w.heap.size ∧ ∀ i, i < n → w.cell? (ad.add i) = some (.string (ss.getD i ⟨#[]⟩)))

/-- both ways of joining, of a slice that reads as ss in the world w and later -/
def Joins (w : World) (v : Value) (x : ByteArray) : Prop := ∀ w', Since w w' → (∀ R : Ending → World → Prop, (∀ w2, Since w w2 → R (.returned (.string x)) w2) → Calls Try.prog 30 #[v] w' R) ∧ (∀ R : Ending → World → Prop, (∀ w2, Since w w2 → R (.returned (.string x)) w2) → Calls Try.prog 31 #[v] w' R)

theorem joins_nil (A : Option Addr) (c : Nat) (w : World) : Joins w (.slice A 0 c) ⟨#[]⟩ := fun w' hs =>
  ⟨fun R k => (join_nil A c w').mono fun _ _ ⟨he, hb⟩ => by subst he; exact k _ (hs.step hb), fun R k => (rjoin_nil A c w').mono fun _ _ ⟨he, hb⟩ => by subst he; exact k _ (hs.step hb)⟩
theorem joins_some (w : World) (ad : Addr) (cap : Nat) (ss : List ByteArray) (hb : ad.block < w.heap.size) (hl : ss.length ≤ 40) (hN : (Oct.cat ss).length ≤ 140737488355328)
    (hc : ∀ i, i < ss.length → w.cell? (ad.add i) = some (.string (ss.getD i ⟨#[]⟩))) : Joins w (.slice (some ad) ss.length cap) (bs (Oct.cat ss)) := fun w' hs => by
  have hc' : ∀ i, i < ss.length → w'.cell? (ad.add i) = some (.string (ss.getD i ⟨#[]⟩)) := fun i hi => (Below.cell hs (by rw [show (ad.add i).block = ad.block from by unfold Addr.add; split <;> rfl]; exact hb)).trans (hc i hi)
  have hb' : ad.block < w'.heap.size := Nat.lt_of_lt_of_le hb (Below.size hs)
  exact ⟨fun R k => (Oct.join_any ss ad cap _ _ w' rfl rfl hN (by omega) hb' hc').mono fun _ _ ⟨he, hb⟩ => by subst he; exact k _ (hs.step hb),
    fun R k => (RefOct.join_any ss ad cap _ _ w' rfl rfl hN (by omega) hc').mono fun _ _ ⟨he, hb⟩ => by subst he; exact k _ (hs.step hb)⟩

set_option maxRecDepth 100000 in
set_option maxHeartbeats 1000000 in
theorem core (a b : ByteArray) (ha : a.size ≤ 500) (hb : b.size ≤ 500) (A : Option Addr) (n cap : Nat) (hn : n ≤ 40) (x p : ByteArray) (w : World) (P : Nat → ByteArray)
    (hA : 0 < n → ∃ ad, A = some ad ∧ ∀ i, i < n → w.cell? (ad.add i) = some (.string (P i)))
    (c1 : Mak 28 #[.string a, .string b] (.string x)) (c2 : Mak 29 #[.string a, .string b] (.string x))
    (c3 : (∀ i, i < n → (P i).size ≤ 100) → Joins w (.slice A n cap) p) :
    Calls Try.prog 5 #[.string a, .string b, .slice A n cap] w fun e w' => e = .returned (.bool true) ∧ Since w w' := by
  have H0 := Lib.hid (Since.refl w)
  have HA := Lib.hid hA
  have C3 := Lib.hid c3
  clear hA c3
  go_enter Try.func5, Try.ntmps5
  go_wp2_with fail
  go_loop [25] (fun i => ∃ k : Nat, k ≤ n ∧ i = .int .i64 (k : Int) ∧ Hid (∀ j, j < k → (P j).size ≤ 100)) (fun i => n - (intOf i).toNat)
  case atStart => exact ⟨0, by omega, rfl, Lib.hid (fun j hj => by omega)⟩
  case round =>
    obtain ⟨k, hk, rfl, HK⟩ := hrel
    by_cases hlt : k < n
    · obtain ⟨ad, hAd, hcell0⟩ := HA.out (by omega)
      have hcell := hcell0 k hlt
      clear hcell0
      subst hAd
      obtain ⟨q, hq⟩ : ∃ q, q = P k := ⟨_, rfl⟩
      rw [← hq] at hcell
      have HQ := Lib.hid hq
      clear hq
      by_cases hq100 : q.size ≤ 100
      · go_wp2_with fail
        go_round
        case rel =>
          refine ⟨k + 1, by omega, by go_num, Lib.hid (fun j hj => ?_)⟩
          by_cases hjk : j < k
          · exact HK.out j hjk
          · obtain rfl : j = k := by omega
            rw [← HQ.out]; exact hq100
        case measure => simp [intOf]; omega
      · go_wp2_with fail
        refine Oct.awake_mak.calls H0.out ?_
        intro w3 h3
        have H3 := Lib.hid h3
        clear h3
        go_wp2_with fail
        go_ret
        exact ⟨rfl, H3.out⟩
    · obtain rfl : k = n := by omega
      have HJ := Lib.hid (C3.out HK.out)
      go_wp2_with fail
      refine c1.calls H0.out ?_
      intro w1 h1
      have H1 := Lib.hid h1
      clear h1
      go_wp2_with fail
      refine c2.calls H1.out ?_
      intro w2 h2
      have H2 := Lib.hid h2
      clear h2
      go_wp2_with fail
      refine (HJ.out _ H2.out).1 _ ?_
      intro w3 h3
      have H3 := Lib.hid h3
      clear h3
      go_wp2_with fail
      refine (HJ.out _ H3.out).2 _ ?_
      intro w4 h4
      have H4 := Lib.hid h4
      clear h4
      go_wp2_with fail
      refine Oct.awake_mak.calls H4.out ?_
      intro w5 h5
      have H5 := Lib.hid h5
      clear h5
      go_wp2_with fail
      go_ret
      exact ⟨rfl, H5.out⟩

theorem cat_small (ss : List ByteArray) (h : ∀ i, i < ss.length → (ss.getD i ⟨#[]⟩).size ≤ 100) : (Oct.cat ss).length ≤ 100 * ss.length := by
  induction ss with
  | nil => simp [Oct.cat]
  | cons s ss ih =>
    have h0 : s.size ≤ 100 := h 0 (by simp)
    have h1 := ih (fun i hi => by have := h (i + 1) (by simpa using hi); simpa using this)
    have h2 : (Oct.cat (s :: ss)).length = s.size + (Oct.cat ss).length := by simp [Oct.cat]
    rw [h2, List.length_cons]
    omega

set_option maxHeartbeats 1000000 in
theorem walk (a0 a1 : ByteArray) (a2 : Option Addr) (n2 c2 : Nat) (P2 : Nat → ByteArray) (w0 : a0.size ≤ maxLen) (w1 : a1.size ≤ maxLen) (w : World)
    (hA : n2 ≤ maxLen ∧ ((a2 = none ∧ n2 = 0 ∧ c2 = 0) ∨ ∃ ad, a2 = some ad ∧ (0 < n2 → ad.block < w.heap.size) ∧ ∀ i, i < n2 → w.cell? (ad.add i) = some (.string (P2 i)))) :
    Calls Try.prog 5 #[.string a0, .string a1, .slice a2 n2 c2] w fun e w' => e = .returned (.bool true) ∧ Below w.heap.size w w' := by
  obtain ⟨hn2, hA⟩ := hA
  unfold maxLen at w0 w1 hn2
  by_cases h0 : a0.size ≤ 500
  · by_cases h1 : a1.size ≤ 500
    · by_cases h2 : n2 ≤ 40
      · have c1 : Mak 28 #[.string a0, .string a1] (.string (strOfNums ((List.range (min a0.size a1.size)).map (Oct.xorV a0.data.toList a1.data.toList)))) := fun w => Oct.xor_any a0 a1 w _ rfl (by omega) (by omega)
        have c2' : Mak 29 #[.string a0, .string a1] (.string (strOfNums ((List.range (min a0.size a1.size)).map (Oct.xorV a0.data.toList a1.data.toList)))) := fun w => RefOct.xor_any a0 a1 _ w rfl (by omega) (by omega)
        by_cases hn0 : n2 = 0
        · subst hn0
          exact core a0 a1 h0 h1 a2 0 c2 (by omega) _ _ w P2 (fun h => absurd h (by omega)) c1 c2' (fun _ => joins_nil a2 c2 w)
        · obtain ⟨ad, rfl, hb, hc⟩ : ∃ ad, a2 = some ad ∧ (0 < n2 → ad.block < w.heap.size) ∧ ∀ i, i < n2 → w.cell? (ad.add i) = some (.string (P2 i)) := by
            rcases hA with ⟨_, h, _⟩ | h
            · exact absurd h hn0
            · exact h
          clear hA
          have hg : ∀ i, i < n2 → ((List.range n2).map P2).getD i ⟨#[]⟩ = P2 i := fun i hi => by simp [List.getD, hi]
          have hl : ((List.range n2).map P2).length = n2 := by simp
          refine core a0 a1 h0 h1 (some ad) n2 c2 h2 _ (bs (Oct.cat ((List.range n2).map P2))) w P2 (fun _ => ⟨ad, rfl, hc⟩) c1 c2' (fun hs => ?_)
          have hcs := cat_small ((List.range n2).map P2) (fun i hi => by rw [hl] at hi; rw [hg i hi]; exact hs i hi)
          have hj := joins_some w ad c2 ((List.range n2).map P2) (hb (Nat.pos_of_ne_zero hn0)) (by rw [hl]; exact h2) (by rw [hl] at hcs; omega) (fun i hi => by rw [hl] at hi; rw [hg i hi]; exact hc i hi)
          rwa [hl] at hj
      · clear hA
        have h2' : 40 < n2 := by omega
        have hb : decide (40 < (n2 : Int)) = true := by simp; omega
        clear h2 hn2 w0 w1
        go_enter Try.func5, Try.ntmps5
        go_wp2_with fail
        all_goals
          refine Oct.awake_mak.calls (Since.refl w) ?_
          intro w3 h3
          have H3 := Lib.hid h3
          clear h3
          go_wp2_with fail
          go_ret
          exact ⟨rfl, H3.out⟩
    · clear hA
      go_enter Try.func5, Try.ntmps5
      go_wp2_with fail
      all_goals
        refine Oct.awake_mak.calls (Since.refl w) ?_
        intro w3 h3
        have H3 := Lib.hid h3
        clear h3
        go_wp2_with fail
        go_ret
        exact ⟨rfl, H3.out⟩
  · clear hA
    go_enter Try.func5, Try.ntmps5
    go_wp2_with fail
    all_goals
      refine Oct.awake_mak.calls (Since.refl w) ?_
      intro w3 h3
      have H3 := Lib.hid h3
      clear h3
      go_wp2_with fail
      go_ret
      exact ⟨rfl, H3.out⟩

/-- a slice of strings that came in, opened -/
theorem strs_read {H : Type} {enc : TypeId × Value → H} {w : World} {spare : Nat → Bool} {held : Bool} {fuel : Nat} {A : Option Addr} {n c : Nat} {d : DataW H} {ps : List MemPlace}
    (hf : DataW.trod enc Try.prog w 0 spare held fuel 30 (Value.slice A n c).cells.toList = some (d, ps)) (hlt : ∀ x ∈ ps, x.block < w.heap.size) :
    ∃ P : Nat → ByteArray, n ≤ maxLen ∧ ((A = none ∧ n = 0 ∧ c = 0) ∨ ∃ ad, A = some ad ∧ (0 < n → ad.block < w.heap.size) ∧ ∀ i, i < n → w.cell? (ad.add i) = some (.string (P i))) := by
  have hc9 : Try.prog.cellsOf 9 = 1 := by kernel_rfl
  rcases open_strings Try.underlying30 Try.underlying9 hc9 hf with ⟨hcs, hx⟩ | ⟨a, len', cap', ss, hcs, _, hl, hm, hz, hx, hcell, hws⟩
  · simp [Value.cells] at hcs
    obtain ⟨rfl, rfl, rfl⟩ := hcs
    exact ⟨fun _ => ⟨#[]⟩, Nat.zero_le _, Or.inl ⟨rfl, rfl, rfl⟩⟩
  · simp [Value.cells] at hcs
    obtain ⟨rfl, rfl, rfl⟩ := hcs
    simp only [Prod.mk.injEq] at hx
    obtain ⟨rfl, rfl⟩ := hx
    have hn : n ≤ ss.length := by rw [hz]; split <;> omega
    refine ⟨fun i => ss.getD i ⟨#[]⟩, Nat.le_trans hl hm, Or.inr ⟨a, rfl, fun h0 => ?_, fun i hi => hcell i (by omega)⟩⟩
    obtain ⟨b, off, spot⟩ := a
    have hspot : spot = none := by simpa [Addr.add] using World.cell?_spot (hcell 0 (by omega))
    subst hspot
    exact hlt (.cell b off) (MemPlace.mem_row.2 ⟨0, by omega, by simp⟩)

theorem own : ownKnob Try.prog.godebug = none := by kernel_rfl
theorem laidOut : laidOutB Try.prog = true := by kernel_rfl

set_option maxRecDepth 100000 in
theorem lifted (os : Os) (started : os.Started) (H : Type) (enc : TypeId × Value → H) :
    ReturnsInHanded {} Try.checked os 5 .any (Rows.octetsXorSpec.pre6 enc Try.prog Try.f5 Rows.octetsXorRow.domain false) (Rows.octetsXorSpec.post enc Try.prog Try.f5 false true false false) := by
  refine returnsInHanded_of_change (C := Try.checked) own started (by kernel_rfl) Try.func5
    (ChangeSpec.witness6 (enc := enc) (C := Try.checked) false ⟨#[], #[.string ⟨#[]⟩, .string ⟨#[]⟩, .slice none 0 0], []⟩ 8 (by kernel_rfl) (by kernel_rfl) (by kernel_rfl) (by kernel_rfl)) ?_
  intro W base args ds gs before hval0 hW hcnd _
  have hval : ∀ (j : Nat) t v, Try.f5.params[j]? = some t → args[j]? = some v → Value.okWide Try.prog W .any base t v := hval0
  have hW' := hW
  obtain ⟨p, q, hA0, hV, rfl, hfz, hnd⟩ := hW
  have hA : DataW.TrodAll enc Try.prog W 0 (fun _ => true) true Try.f5.params.toList args.toList ds p := hA0
  rw [Try.params5] at hA hval
  obtain ⟨v0, vs0, d0, ds0, p0, q0, hargs, rfl, rfl, h0, r0⟩ := trodAll_cons hA
  obtain ⟨v1, vs1, d1, ds1, p1, q1, rfl, rfl, rfl, h1, r1⟩ := trodAll_cons r0
  obtain ⟨v2, vs2, d2, ds2, p2, q2, rfl, rfl, rfl, h2, r2⟩ := trodAll_cons r1
  obtain ⟨rfl, rfl, rfl⟩ := trodAll_nil r2
  obtain rfl : args = #[v0, v1, v2] := by cases args; simp_all
  obtain ⟨rfl, rfl⟩ := trodVars_none hV
  obtain ⟨a0, rfl, rfl, rfl, w0⟩ := Go.ChangeMaps.open_string Try.underlying9 (hval 0 9 v0 rfl rfl) h0
  obtain ⟨a1, rfl, rfl, rfl, w1⟩ := Go.ChangeMaps.open_string Try.underlying9 (hval 1 9 v1 rfl rfl) h1
  obtain ⟨a2, n2, c2, rfl⟩ := okWide_slice Try.underlying30 (hval 2 30 v2 rfl rfl)
  have h2k := h2
  obtain ⟨fuel2, hf2⟩ := h2
  have hlt2 : ∀ x ∈ p2, x.block < W.heap.size := fun x hx => by simpa using hW'.lt x (by simp [hx])
  obtain ⟨P2, hA2⟩ := strs_read hf2 hlt2
  clear hA0 hval0
  simp only [List.append_nil] at hW'
  refine (walk a0 a1 a2 n2 c2 P2 w0 w1 W hA2).mono fun e W' ⟨he, hg⟩ => ?_
  subst he
  exact ⟨_, rfl, _, _, _, _, _, [], hW', (trodAll_cons_mk (shut_bool Try.underlying4 _) trodAll_mk0), (trodAll_cons_mk (Go.ChangeMaps.shut_string Try.underlying9 w0) (trodAll_cons_mk (Go.ChangeMaps.shut_string Try.underlying9 w1) (trodAll_cons_mk (Below.trod laidOut (by kernel_rfl) (of_decide_eq_true (by kernel_rfl)) h2k hg hlt2) trodAll_mk0))), rfl, hg.frame _, fun h => by cases h⟩

theorem over : Rows.octetsXorRow.holds Try.pinned (OpenSpec.ofChange Rows.octetsXorSpec) :=
  OpenClaim.holds_of_wide 5 Try.f5 rfl rfl rfl rfl rfl rfl rfl ⟨rfl, rfl, rfl, rfl, rfl⟩ rfl rfl rfl rfl rfl (by kernel_rfl) Try.func5 (by kernel_rfl)
    (of_decide_eq_true (by kernel_rfl)) (by unfold Func.isWrapper; first | (rw [if_pos (by decide +kernel)]; kernel_rfl) | (rw [if_neg (by decide +kernel)]; exact ⟨rfl, rfl⟩))
    (fun os started H enc _ => lifted os started H enc)

theorem proved : Rows.OctetsXorSaid :=
  over

end Go.Proofs.Ytldipjlepofdgaa.octetsXor
