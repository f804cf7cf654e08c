/- The law TemplOptions: any attributes are the option, any options the attributes, that the document says, or why not; no conditions. -/
import Derived.Test.YtoledeeefcbgnaaRows
import Derived.WalkKit
import Derived.ProofKit
import Derived.OpenShut
import Derived.Lib.Hide
import Derived.Test.YtoledeeefcbgnaaTp15
namespace Go.Proofs.Ytoledeeefcbgnaa.templOptions
open Go.ChangeShapes Go.WideShapes Go.ChangeAt Go.RowKit
open Att Templ

def okP (p : P2) : Bool := decide (p.1.size ≤ 20) && decide (p.2.size ≤ 1000)
/-- options of the law's own -/
def OwnP (w W : World) (v : Value) (k : Nat) (L : List P2) : Prop := W.ownsRow w.heap.size 36 2 v k (L.flatMap Opt.oc) ∧ L.length = k
theorem OwnP.since {w W W' : World} {v : Value} {k : Nat} {L : List P2} (h : OwnP w W v k L) (hs : Since W W') : OwnP w W' v k L := ⟨row_since h.1 hs, h.2⟩
theorem OwnP.read {w W : World} {v : Value} {k : Nat} {L : List P2} (h : OwnP w W v k L) : Opt.OptsS W v L := by
  obtain ⟨h1, rfl⟩ := h
  exact Opt.OptsS.own h1
set_option maxRecDepth 100000 in
theorem elemP : ElemIs 33 36 (.agg #[.string ⟨#[]⟩, .string ⟨#[]⟩]) 2 32 := ⟨Try.underlying33, by kernel_rfl, rfl, by decide⟩
theorem own_p1 {w W : World} {v : Value} {k : Nat} {L M : List P2} {i d : ByteArray} (h : W.ownsRow w.heap.size 36 2 v (k + 1) (L.flatMap Opt.oc ++ #[Value.string i, Value.string d].toList)) (hk : L.length = k) (hM : M = L ++ [(i, d)]) : OwnP w W v (k + 1) M := by
  subst hM hk
  refine ⟨?_, by rw [List.length_append]; rfl⟩
  rw [List.flatMap_append]
  exact h
set_option maxRecDepth 100000 in
theorem opt_cells {H : Type} {enc : TypeId × Value → H} {w : World} {sp : Nat → Bool} {held : Bool} {m : Nat} {cs : List Value} {z : DataW H × List MemPlace} (h : DataW.trod enc Try.prog w 0 sp held m 35 cs = some z) :
    ∃ p : P2, cs = Opt.oc p ∧ p.1.size ≤ maxLen ∧ p.2.size ≤ maxLen := by
  obtain ⟨y0, y1, n, _, hl, h0, h1⟩ := Go.ChangeShapes.trod_struct2 Try.underlying35 h
  have hC : Try.prog.cellsOf 35 = 2 := by kernel_rfl
  have hc : Try.prog.cellsOf 9 = 1 := by kernel_rfl
  rw [hC] at hl
  match cs, hl with
  | [u, v], _ =>
    rw [show ({ name := "ID", type := 9, offset := 0, embedded := false, tag := "", pkgPath := "", byteOffset := 0 } : Field).type = 9 from rfl, hc] at h0
    rw [show ({ name := "Data", type := 9, offset := 1, embedded := false, tag := "", pkgPath := "", byteOffset := 16 } : Field).type = 9 from rfl, hc] at h1
    obtain ⟨x, e0, _, w0⟩ := DataW.trod_string Try.underlying9 h0
    obtain ⟨y, e1, _, w1⟩ := DataW.trod_string Try.underlying9 h1
    simp at e0 e1
    subst e0 e1
    exact ⟨(x, y), rfl, w0, w1⟩
set_option maxRecDepth 100000 in
theorem opts_arg {H : Type} {enc : TypeId × Value → H} {w : World} {sp : Nat → Bool} {held : Bool} {fuel : Nat} {A : Option Addr} {n c : Nat} {d : DataW H} {ps : List MemPlace}
    (hf : DataW.trod enc Try.prog w 0 sp held fuel 32 (Value.slice A n c).cells.toList = some (d, ps)) (hlt : ∀ x ∈ ps, x.block < w.heap.size) :
    ∃ l : List P2, Opt.OptsS w (.slice A n c) l ∧ n = l.length ∧ ∀ p ∈ l, p.1.size ≤ maxLen ∧ p.2.size ≤ maxLen := by
  obtain ⟨l, h1, h2, h3⟩ := Go.Proofs.Ytoledeeefcbgnaa.arg_elems (k := 2) Opt.oc (fun p => p.1.size ≤ maxLen ∧ p.2.size ≤ maxLen) Try.underlying32 (by kernel_rfl) (by decide) (fun _ => rfl)
    (fun m cs z hz _ _ => opt_cells hz) (by simpa [Value.cells] using hf) hlt
  refine ⟨l, ?_, h1, h3⟩
  subst h1
  exact h2
set_option maxRecDepth 100000 in
set_option maxHeartbeats 16000000 in
theorem core_nil (w : World) (A B : Option Addr) (n c d : Nat) (l : List A2) (hx : AttsS w (.slice A n c) l) (hy : Opt.OptsS w (.slice B 0 d) [])
    (cF : RdA 6 l (fun x => #[x, .int .i64 60]) (.bool true)) (L1 : List P2) (E : Int) (hL : L1 = [] ∨ ∃ X, L1 = [(TEN, X)]) (c1 : MkP 13 l L1 E) (c2 : MkP 14 l L1 E) (L : List A2) (F : Int) (c3 : MkF 15 [] L F) (c4 : MkF 16 [] L F) :
    Calls Try.prog 4 #[.slice A n c, .slice B 0 d] w fun x w' => x = .returned (.bool true) ∧ Since w w' := by
  have HS := Lib.hid (Since.refl w)
  have HX := Lib.hid hx
  have HO := Lib.hid hy
  have HL := Lib.hid hL
  have cA := awake_mak
  have cE := attrs_same L
  clear hx hy hL
  go_enter Try.func4, Try.ntmps4
  go_wp2_with fail
  refine (cF.calls0 HX.out) ?_
  intro w1 h1
  replace HX := Lib.hid (HX.out.since (by first | exact h1 | exact (Since.alloc (Since.refl _) _).step h1 | exact (Since.alloc (Since.alloc (Since.refl _) _) _).step h1 | exact (Since.drew (Since.refl _)).step h1 | exact (Since.alloc (Since.alloc (Since.alloc (Since.refl _) _) _) _).step h1))
  replace HO := Lib.hid (HO.out.since (by first | exact h1 | exact (Since.alloc (Since.refl _) _).step h1 | exact (Since.alloc (Since.alloc (Since.refl _) _) _).step h1 | exact (Since.drew (Since.refl _)).step h1 | exact (Since.alloc (Since.alloc (Since.alloc (Since.refl _) _) _) _).step h1))
  replace HS := Lib.hid (HS.out.step (by first | exact h1 | exact (Since.alloc (Since.refl _) _).step h1 | exact (Since.alloc (Since.alloc (Since.refl _) _) _).step h1 | exact (Since.drew (Since.refl _)).step h1 | exact (Since.alloc (Since.alloc (Since.alloc (Since.refl _) _) _) _).step h1))
  clear h1
  go_wp2_with fail
  go_loopw [5, 7, 27] (fun v _ i wr => i = .int .i64 0 ∧ v = .slice none 0 0 ∧ wr = w1) (fun _ _ i _ => 0 - (intOf i).toNat)
  case atStart => exact ⟨rfl, rfl, rfl⟩
  case round =>
    obtain ⟨rfl, rfl, rfl⟩ := hrel
    have HT : Hid (Opt.OptsS wr (.slice none 0 0) []) := Lib.hid (Opt.OptsS.nil _)
    go_wp2_with fail
    refine (c1.calls0 HX.out) ?_
    intro v2 w2 hv2 h2
    have HV2 := Lib.hid hv2
    clear hv2
    replace HX := Lib.hid (HX.out.since (by first | exact h2 | exact (Since.alloc (Since.refl _) _).step h2 | exact (Since.alloc (Since.alloc (Since.refl _) _) _).step h2 | exact (Since.drew (Since.refl _)).step h2 | exact (Since.alloc (Since.alloc (Since.alloc (Since.refl _) _) _) _).step h2))
    replace HT := Lib.hid (HT.out.since (by first | exact h2 | exact (Since.alloc (Since.refl _) _).step h2 | exact (Since.alloc (Since.alloc (Since.refl _) _) _).step h2 | exact (Since.drew (Since.refl _)).step h2 | exact (Since.alloc (Since.alloc (Since.alloc (Since.refl _) _) _) _).step h2))
    replace HO := Lib.hid (HO.out.since (by first | exact h2 | exact (Since.alloc (Since.refl _) _).step h2 | exact (Since.alloc (Since.alloc (Since.refl _) _) _).step h2 | exact (Since.drew (Since.refl _)).step h2 | exact (Since.alloc (Since.alloc (Since.alloc (Since.refl _) _) _) _).step h2))
    replace HS := Lib.hid (HS.out.step (by first | exact h2 | exact (Since.alloc (Since.refl _) _).step h2 | exact (Since.alloc (Since.alloc (Since.refl _) _) _).step h2 | exact (Since.drew (Since.refl _)).step h2 | exact (Since.alloc (Since.alloc (Since.alloc (Since.refl _) _) _) _).step h2))
    clear h2
    go_wp2_with fail
    refine (c2.calls0 HX.out) ?_
    intro v3 w3 hv3 h3
    have HV3 := Lib.hid hv3
    clear hv3
    replace HT := Lib.hid (HT.out.since (by first | exact h3 | exact (Since.alloc (Since.refl _) _).step h3 | exact (Since.alloc (Since.alloc (Since.refl _) _) _).step h3 | exact (Since.drew (Since.refl _)).step h3 | exact (Since.alloc (Since.alloc (Since.alloc (Since.refl _) _) _) _).step h3))
    replace HO := Lib.hid (HO.out.since (by first | exact h3 | exact (Since.alloc (Since.refl _) _).step h3 | exact (Since.alloc (Since.alloc (Since.refl _) _) _).step h3 | exact (Since.drew (Since.refl _)).step h3 | exact (Since.alloc (Since.alloc (Since.alloc (Since.refl _) _) _) _).step h3))
    replace HV2 := Lib.hid (HV2.out.since (by first | exact h3 | exact (Since.alloc (Since.refl _) _).step h3 | exact (Since.alloc (Since.alloc (Since.refl _) _) _).step h3 | exact (Since.drew (Since.refl _)).step h3 | exact (Since.alloc (Since.alloc (Since.alloc (Since.refl _) _) _) _).step h3))
    replace HS := Lib.hid (HS.out.step (by first | exact h3 | exact (Since.alloc (Since.refl _) _).step h3 | exact (Since.alloc (Since.alloc (Since.refl _) _) _).step h3 | exact (Since.drew (Since.refl _)).step h3 | exact (Since.alloc (Since.alloc (Since.alloc (Since.refl _) _) _) _).step h3))
    clear h3
    go_wp2_with fail
    refine (c3.calls0 HT.out) ?_
    intro v4 w4 hv4 h4
    have HV4 := Lib.hid hv4
    clear hv4
    replace HO := Lib.hid (HO.out.since (by first | exact h4 | exact (Since.alloc (Since.refl _) _).step h4 | exact (Since.alloc (Since.alloc (Since.refl _) _) _).step h4 | exact (Since.drew (Since.refl _)).step h4 | exact (Since.alloc (Since.alloc (Since.alloc (Since.refl _) _) _) _).step h4))
    replace HV2 := Lib.hid (HV2.out.since (by first | exact h4 | exact (Since.alloc (Since.refl _) _).step h4 | exact (Since.alloc (Since.alloc (Since.refl _) _) _).step h4 | exact (Since.drew (Since.refl _)).step h4 | exact (Since.alloc (Since.alloc (Since.alloc (Since.refl _) _) _) _).step h4))
    replace HV3 := Lib.hid (HV3.out.since (by first | exact h4 | exact (Since.alloc (Since.refl _) _).step h4 | exact (Since.alloc (Since.alloc (Since.refl _) _) _).step h4 | exact (Since.drew (Since.refl _)).step h4 | exact (Since.alloc (Since.alloc (Since.alloc (Since.refl _) _) _) _).step h4))
    replace HS := Lib.hid (HS.out.step (by first | exact h4 | exact (Since.alloc (Since.refl _) _).step h4 | exact (Since.alloc (Since.alloc (Since.refl _) _) _).step h4 | exact (Since.drew (Since.refl _)).step h4 | exact (Since.alloc (Since.alloc (Since.alloc (Since.refl _) _) _) _).step h4))
    clear h4
    go_wp2_with fail
    refine (c4.calls0 HO.out) ?_
    intro v5 w5 hv5 h5
    have HV5 := Lib.hid hv5
    clear hv5
    replace HV2 := Lib.hid (HV2.out.since (by first | exact h5 | exact (Since.alloc (Since.refl _) _).step h5 | exact (Since.alloc (Since.alloc (Since.refl _) _) _).step h5 | exact (Since.drew (Since.refl _)).step h5 | exact (Since.alloc (Since.alloc (Since.alloc (Since.refl _) _) _) _).step h5))
    replace HV3 := Lib.hid (HV3.out.since (by first | exact h5 | exact (Since.alloc (Since.refl _) _).step h5 | exact (Since.alloc (Since.alloc (Since.refl _) _) _).step h5 | exact (Since.drew (Since.refl _)).step h5 | exact (Since.alloc (Since.alloc (Since.alloc (Since.refl _) _) _) _).step h5))
    replace HV4 := Lib.hid (HV4.out.since (by first | exact h5 | exact (Since.alloc (Since.refl _) _).step h5 | exact (Since.alloc (Since.alloc (Since.refl _) _) _).step h5 | exact (Since.drew (Since.refl _)).step h5 | exact (Since.alloc (Since.alloc (Since.alloc (Since.refl _) _) _) _).step h5))
    replace HS := Lib.hid (HS.out.step (by first | exact h5 | exact (Since.alloc (Since.refl _) _).step h5 | exact (Since.alloc (Since.alloc (Since.refl _) _) _).step h5 | exact (Since.drew (Since.refl _)).step h5 | exact (Since.alloc (Since.alloc (Since.alloc (Since.refl _) _) _) _).step h5))
    clear h5
    go_wp2_with fail
    rcases HL.out with rfl | ⟨X, rfl⟩
    · obtain ⟨B2, d2, rfl, _⟩ := HV2.out.empty rfl
      obtain ⟨B3, d3, rfl, _⟩ := HV3.out.empty rfl
      clear HV2 HV3 HL
      go_wp2_with fail
      go_quiet (fail)
      replace HS := Lib.hid (HS.out.step (belowN _ nq))
      have HV6 := Lib.hid (HV4.out.since (belowN _ nq))
      have HV7 := Lib.hid (HV5.out.since (belowN _ nq))
      clear HV4 HV5
      go_wp2_with fail
      refine (cE.calls0 HV6.out HV7.out) ?_
      intro w6 h6
      replace HS := Lib.hid (HS.out.step (by first | exact h6 | exact (Since.alloc (Since.refl _) _).step h6 | exact (Since.alloc (Since.alloc (Since.refl _) _) _).step h6 | exact (Since.drew (Since.refl _)).step h6 | exact (Since.alloc (Since.alloc (Since.alloc (Since.refl _) _) _) _).step h6))
      clear h6
      go_wp2_with fail
      refine (cA.calls0) ?_
      intro w7 h7
      replace HS := Lib.hid (HS.out.step (by first | exact h7 | exact (Since.alloc (Since.refl _) _).step h7 | exact (Since.alloc (Since.alloc (Since.refl _) _) _).step h7 | exact (Since.drew (Since.refl _)).step h7 | exact (Since.alloc (Since.alloc (Since.alloc (Since.refl _) _) _) _).step h7))
      clear h7
      go_wp2_with fail
      go_ret
      exact ⟨rfl, HS.out⟩
    · obtain ⟨b2, o2, d2, hv2, _, _, _, k2⟩ := HV2.out.form (show 0 < 1 by decide)
      obtain ⟨b3, o3, d3, hv3, _, _, _, k3⟩ := HV3.out.form (show 0 < 1 by decide)
      replace hv2 : v2 = .slice (some ⟨b2, o2, none⟩) 1 d2 := hv2
      replace hv3 : v3 = .slice (some ⟨b3, o3, none⟩) 1 d3 := hv3
      subst hv2 hv3
      obtain ⟨m0, m1⟩ := k2 0 _ rfl
      obtain ⟨n0, n1⟩ := k3 0 _ rfl
      rw [Nat.zero_mul, Nat.add_zero] at m0 m1 n0 n1
      have q1 : (TEN.toList == TEN.toList) = true := beq_self_eq_true _
      have q2 : (X.toList == X.toList) = true := beq_self_eq_true _
      obtain ⟨T, hT⟩ : ∃ T, TEN = T := ⟨_, rfl⟩
      replace m0 : w5.cell? ⟨b2, o2, none⟩ = some (.string T) := by rw [← hT]; exact m0
      replace n0 : w5.cell? ⟨b3, o3, none⟩ = some (.string T) := by rw [← hT]; exact n0
      rw [hT] at q1
      replace m1 : w5.cell? ⟨b2, o2 + 1, none⟩ = some (.string X) := m1
      replace n1 : w5.cell? ⟨b3, o3 + 1, none⟩ = some (.string X) := n1
      clear HV2 HV3 HL k2 k3 hT
      go_wp2_with fail
      go_quiet (fail)
      replace HS := Lib.hid (HS.out.step (belowN _ nq))
      have HV6 := Lib.hid (HV4.out.since (belowN _ nq))
      have HV7 := Lib.hid (HV5.out.since (belowN _ nq))
      clear HV4 HV5
      go_wp2_with fail
      refine (cE.calls0 HV6.out HV7.out) ?_
      intro w6 h6
      replace HS := Lib.hid (HS.out.step (by first | exact h6 | exact (Since.alloc (Since.refl _) _).step h6 | exact (Since.alloc (Since.alloc (Since.refl _) _) _).step h6 | exact (Since.drew (Since.refl _)).step h6 | exact (Since.alloc (Since.alloc (Since.alloc (Since.refl _) _) _) _).step h6))
      clear h6
      go_wp2_with fail
      refine (cA.calls0) ?_
      intro w7 h7
      replace HS := Lib.hid (HS.out.step (by first | exact h7 | exact (Since.alloc (Since.refl _) _).step h7 | exact (Since.alloc (Since.alloc (Since.refl _) _) _).step h7 | exact (Since.drew (Since.refl _)).step h7 | exact (Since.alloc (Since.alloc (Since.alloc (Since.refl _) _) _) _).step h7))
      clear h7
      go_wp2_with fail
      go_ret
      exact ⟨rfl, HS.out⟩
set_option maxRecDepth 100000 in
set_option maxHeartbeats 32000000 in
theorem core (w : World) (A B : Option Addr) (n c m d : Nat) (l : List A2) (o : List P2) (hx : AttsS w (.slice A n c) l) (hy : Opt.OptsS w (.slice B m d) o) (h0 : 0 < o.length) (h10 : o.length ≤ 10)
    (cF : RdA 6 l (fun x => #[x, .int .i64 60]) (.bool true)) (L1 : List P2) (E : Int) (hL : L1 = [] ∨ ∃ X, L1 = [(TEN, X)]) (c1 : MkP 13 l L1 E) (c2 : MkP 14 l L1 E) (L : List A2) (F : Int) (h3 : (∀ p ∈ o, okP p = true) → MkF 15 o L F ∧ MkF 16 o L F) :
    Calls Try.prog 4 #[.slice A n c, .slice B m d] w fun x w' => x = .returned (.bool true) ∧ Since w w' := by
  have HO := Lib.hid hy
  obtain ⟨b, q, d', hv, g1, g2, g3, g4⟩ := hy.form h0
  obtain ⟨rfl, rfl, rfl⟩ := Value.slice.inj hv
  obtain ⟨m, hm⟩ : ∃ m, m = o.length := ⟨_, rfl⟩
  rw [← hm] at HO g1 h0 h10 ⊢
  have t1 : decide ((10 : Int) < (m : Int)) = false := decide_eq_false (by omega)
  have HS := Lib.hid (Since.refl w)
  have HX := Lib.hid hx
  have HL := Lib.hid hL
  have HC := Lib.hid g4
  have HM := Lib.hid hm
  have H3 := Lib.hid h3
  have cA := awake_mak
  have cE := attrs_same L
  clear hx hy hL g4 hm h3 hv
  go_enter Try.func4, Try.ntmps4
  go_wp2_with fail
  refine (cF.calls0 HX.out) ?_
  intro w1 h1
  replace HS := Lib.hid (HS.out.step (by first | exact h1 | exact (Since.alloc (Since.refl _) _).step h1 | exact (Since.alloc (Since.alloc (Since.refl _) _) _).step h1 | exact (Since.drew (Since.refl _)).step h1 | exact (Since.alloc (Since.alloc (Since.alloc (Since.refl _) _) _) _).step h1))
  clear h1
  go_wp2_with fail
  go_loopw [5, 7, 27] (fun v _ i wr => ∃ k : Nat, k ≤ m ∧ i = .int .i64 (k : Int) ∧ Hid (∀ p ∈ o.take k, okP p = true) ∧ Hid (OwnP w wr v k (o.take k)) ∧ Hid (Since w wr)) (fun _ _ i _ => m - (intOf i).toNat)
  case atStart => exact ⟨0, by omega, rfl, Lib.hid (fun p hp => by cases hp), Lib.hid ⟨World.ownsRow_nil _ _ _ _, rfl⟩, HS⟩
  case round =>
    clear HS
    obtain ⟨k, hk, rfl, HA, HW, HS⟩ := hrel
    by_cases hlt : k < m
    · obtain ⟨⟨i, s⟩, hs⟩ : ∃ s, o[k]? = some s := ⟨o[k]'(by rw [← HM.out]; exact hlt), List.getElem?_eq_getElem _⟩
      obtain ⟨m0, m1⟩ := HC.out k _ hs
      replace m0 : wr.cell? ⟨b, q + k * 2, none⟩ = some (.string i) := (Below.cell HS.out (p := ⟨b, q + k * 2, none⟩) g3).trans m0
      replace m1 : wr.cell? ⟨b, q + k * 2 + 1, none⟩ = some (.string s) := (Below.cell HS.out (p := ⟨b, q + k * 2 + 1, none⟩) g3).trans m1
      have HTK := Lib.hid (take_snoc o k _ hs)
      clear hs
      by_cases z1 : 20 < i.size
      · have t2 : decide ((20 : Int) < (i.size : Int)) = true := decide_eq_true (by omega)
        go_wp2_with fail
        refine cA.calls0 ?_
        intro w8 h8
        replace HS := Lib.hid ((HS.out.alloc _).step h8)
        clear h8
        go_wp2_with fail
        go_ret
        exact ⟨rfl, HS.out⟩
      · have t2 : decide ((20 : Int) < (i.size : Int)) = false := decide_eq_false (by omega)
        by_cases z2 : 1000 < s.size
        · have t3 : decide ((1000 : Int) < (s.size : Int)) = true := decide_eq_true (by omega)
          go_wp2_with fail
          refine cA.calls0 ?_
          intro w8 h8
          replace HS := Lib.hid ((HS.out.alloc _).step h8)
          clear h8
          go_wp2_with fail
          go_ret
          exact ⟨rfl, HS.out⟩
        · have t3 : decide ((1000 : Int) < (s.size : Int)) = false := decide_eq_false (by omega)
          have HA2 : Hid (∀ p ∈ o.take (k + 1), okP p = true) := Lib.hid (by
            rw [HTK.out]
            intro p hp
            rcases List.mem_append.1 hp with h | h
            · exact HA.out p h
            · obtain rfl := List.mem_singleton.1 h
              unfold okP
              rw [decide_eq_true (show i.size ≤ 20 by omega), decide_eq_true (show s.size ≤ 1000 by omega)]; rfl)
          go_wp2_with (at_builtin; refine app_own_h elemP rfl _ _ (by rfl) w (wr.alloc (.cells #[.string i, .string s] 35)) (wr.heap.size + 1) (by simp) _ k _ (by rfl) (row_since HW.out.1 ((Since.refl _).alloc _)) (HS.out.alloc _) #[.string i, .string s] 1 1 (by rfl) rfl (fun u hu => by simp at hu; rcases hu with rfl | rfl <;> rfl) (by unfold maxLen; omega) (by omega) ?_)
          intro v2 W2 ho2 hs2 hk2
          have HW2 := Lib.hid (own_p1 ho2 HW.out.2 HTK.out)
          have HS2 := Lib.hid hs2
          clear ho2 hs2 hk2
          go_wp2_with fail
          go_roundw
          case rel => exact ⟨k + 1, by omega, by go_num, HA2, HW2, HS2⟩
          case measure => simp [intOf]; omega
    · obtain rfl : k = m := by omega
      obtain ⟨c3, c4⟩ := H3.out (by have h9 := HA.out; rw [HM.out, List.take_length] at h9; exact h9)
      have HT : Hid (Opt.OptsS wr u5 o) := Lib.hid (by have h9 := HW.out.read; rw [HM.out, List.take_length] at h9; exact h9)
      replace HX := Lib.hid (HX.out.since HS.out)
      replace HO := Lib.hid (HO.out.since HS.out)
      clear HA HW H3 HC
      go_wp2_with fail
      refine (c1.calls0 HX.out) ?_
      intro v2 w2 hv2 h2
      have HV2 := Lib.hid hv2
      clear hv2
      replace HX := Lib.hid (HX.out.since (by first | exact h2 | exact (Since.alloc (Since.refl _) _).step h2 | exact (Since.alloc (Since.alloc (Since.refl _) _) _).step h2 | exact (Since.drew (Since.refl _)).step h2 | exact (Since.alloc (Since.alloc (Since.alloc (Since.refl _) _) _) _).step h2))
      replace HT := Lib.hid (HT.out.since (by first | exact h2 | exact (Since.alloc (Since.refl _) _).step h2 | exact (Since.alloc (Since.alloc (Since.refl _) _) _).step h2 | exact (Since.drew (Since.refl _)).step h2 | exact (Since.alloc (Since.alloc (Since.alloc (Since.refl _) _) _) _).step h2))
      replace HO := Lib.hid (HO.out.since (by first | exact h2 | exact (Since.alloc (Since.refl _) _).step h2 | exact (Since.alloc (Since.alloc (Since.refl _) _) _).step h2 | exact (Since.drew (Since.refl _)).step h2 | exact (Since.alloc (Since.alloc (Since.alloc (Since.refl _) _) _) _).step h2))
      replace HS := Lib.hid (HS.out.step (by first | exact h2 | exact (Since.alloc (Since.refl _) _).step h2 | exact (Since.alloc (Since.alloc (Since.refl _) _) _).step h2 | exact (Since.drew (Since.refl _)).step h2 | exact (Since.alloc (Since.alloc (Since.alloc (Since.refl _) _) _) _).step h2))
      clear h2
      go_wp2_with fail
      refine (c2.calls0 HX.out) ?_
      intro v3 w3 hv3 h3
      have HV3 := Lib.hid hv3
      clear hv3
      replace HT := Lib.hid (HT.out.since (by first | exact h3 | exact (Since.alloc (Since.refl _) _).step h3 | exact (Since.alloc (Since.alloc (Since.refl _) _) _).step h3 | exact (Since.drew (Since.refl _)).step h3 | exact (Since.alloc (Since.alloc (Since.alloc (Since.refl _) _) _) _).step h3))
      replace HO := Lib.hid (HO.out.since (by first | exact h3 | exact (Since.alloc (Since.refl _) _).step h3 | exact (Since.alloc (Since.alloc (Since.refl _) _) _).step h3 | exact (Since.drew (Since.refl _)).step h3 | exact (Since.alloc (Since.alloc (Since.alloc (Since.refl _) _) _) _).step h3))
      replace HV2 := Lib.hid (HV2.out.since (by first | exact h3 | exact (Since.alloc (Since.refl _) _).step h3 | exact (Since.alloc (Since.alloc (Since.refl _) _) _).step h3 | exact (Since.drew (Since.refl _)).step h3 | exact (Since.alloc (Since.alloc (Since.alloc (Since.refl _) _) _) _).step h3))
      replace HS := Lib.hid (HS.out.step (by first | exact h3 | exact (Since.alloc (Since.refl _) _).step h3 | exact (Since.alloc (Since.alloc (Since.refl _) _) _).step h3 | exact (Since.drew (Since.refl _)).step h3 | exact (Since.alloc (Since.alloc (Since.alloc (Since.refl _) _) _) _).step h3))
      clear h3
      go_wp2_with fail
      refine (c3.calls0 HT.out) ?_
      intro v4 w4 hv4 h4
      have HV4 := Lib.hid hv4
      clear hv4
      replace HO := Lib.hid (HO.out.since (by first | exact h4 | exact (Since.alloc (Since.refl _) _).step h4 | exact (Since.alloc (Since.alloc (Since.refl _) _) _).step h4 | exact (Since.drew (Since.refl _)).step h4 | exact (Since.alloc (Since.alloc (Since.alloc (Since.refl _) _) _) _).step h4))
      replace HV2 := Lib.hid (HV2.out.since (by first | exact h4 | exact (Since.alloc (Since.refl _) _).step h4 | exact (Since.alloc (Since.alloc (Since.refl _) _) _).step h4 | exact (Since.drew (Since.refl _)).step h4 | exact (Since.alloc (Since.alloc (Since.alloc (Since.refl _) _) _) _).step h4))
      replace HV3 := Lib.hid (HV3.out.since (by first | exact h4 | exact (Since.alloc (Since.refl _) _).step h4 | exact (Since.alloc (Since.alloc (Since.refl _) _) _).step h4 | exact (Since.drew (Since.refl _)).step h4 | exact (Since.alloc (Since.alloc (Since.alloc (Since.refl _) _) _) _).step h4))
      replace HS := Lib.hid (HS.out.step (by first | exact h4 | exact (Since.alloc (Since.refl _) _).step h4 | exact (Since.alloc (Since.alloc (Since.refl _) _) _).step h4 | exact (Since.drew (Since.refl _)).step h4 | exact (Since.alloc (Since.alloc (Since.alloc (Since.refl _) _) _) _).step h4))
      clear h4
      go_wp2_with fail
      refine (c4.calls0 HO.out) ?_
      intro v5 w5 hv5 h5
      have HV5 := Lib.hid hv5
      clear hv5
      replace HV2 := Lib.hid (HV2.out.since (by first | exact h5 | exact (Since.alloc (Since.refl _) _).step h5 | exact (Since.alloc (Since.alloc (Since.refl _) _) _).step h5 | exact (Since.drew (Since.refl _)).step h5 | exact (Since.alloc (Since.alloc (Since.alloc (Since.refl _) _) _) _).step h5))
      replace HV3 := Lib.hid (HV3.out.since (by first | exact h5 | exact (Since.alloc (Since.refl _) _).step h5 | exact (Since.alloc (Since.alloc (Since.refl _) _) _).step h5 | exact (Since.drew (Since.refl _)).step h5 | exact (Since.alloc (Since.alloc (Since.alloc (Since.refl _) _) _) _).step h5))
      replace HV4 := Lib.hid (HV4.out.since (by first | exact h5 | exact (Since.alloc (Since.refl _) _).step h5 | exact (Since.alloc (Since.alloc (Since.refl _) _) _).step h5 | exact (Since.drew (Since.refl _)).step h5 | exact (Since.alloc (Since.alloc (Since.alloc (Since.refl _) _) _) _).step h5))
      replace HS := Lib.hid (HS.out.step (by first | exact h5 | exact (Since.alloc (Since.refl _) _).step h5 | exact (Since.alloc (Since.alloc (Since.refl _) _) _).step h5 | exact (Since.drew (Since.refl _)).step h5 | exact (Since.alloc (Since.alloc (Since.alloc (Since.refl _) _) _) _).step h5))
      clear h5
      go_wp2_with fail
      rcases HL.out with rfl | ⟨X, rfl⟩
      · obtain ⟨B2, d2, rfl, _⟩ := HV2.out.empty rfl
        obtain ⟨B3, d3, rfl, _⟩ := HV3.out.empty rfl
        clear HV2 HV3 HL
        go_wp2_with fail
        go_quiet (fail)
        replace HS := Lib.hid (HS.out.step (belowN _ nq))
        have HV6 := Lib.hid (HV4.out.since (belowN _ nq))
        have HV7 := Lib.hid (HV5.out.since (belowN _ nq))
        clear HV4 HV5
        go_wp2_with fail
        refine (cE.calls0 HV6.out HV7.out) ?_
        intro w6 h6
        replace HS := Lib.hid (HS.out.step (by first | exact h6 | exact (Since.alloc (Since.refl _) _).step h6 | exact (Since.alloc (Since.alloc (Since.refl _) _) _).step h6 | exact (Since.drew (Since.refl _)).step h6 | exact (Since.alloc (Since.alloc (Since.alloc (Since.refl _) _) _) _).step h6))
        clear h6
        go_wp2_with fail
        refine (cA.calls0) ?_
        intro w7 h7
        replace HS := Lib.hid (HS.out.step (by first | exact h7 | exact (Since.alloc (Since.refl _) _).step h7 | exact (Since.alloc (Since.alloc (Since.refl _) _) _).step h7 | exact (Since.drew (Since.refl _)).step h7 | exact (Since.alloc (Since.alloc (Since.alloc (Since.refl _) _) _) _).step h7))
        clear h7
        go_wp2_with fail
        go_ret
        exact ⟨rfl, HS.out⟩
      · obtain ⟨b2, o2, d2, hv2, _, _, _, k2⟩ := HV2.out.form (show 0 < 1 by decide)
        obtain ⟨b3, o3, d3, hv3, _, _, _, k3⟩ := HV3.out.form (show 0 < 1 by decide)
        replace hv2 : v2 = .slice (some ⟨b2, o2, none⟩) 1 d2 := hv2
        replace hv3 : v3 = .slice (some ⟨b3, o3, none⟩) 1 d3 := hv3
        subst hv2 hv3
        obtain ⟨m0, m1⟩ := k2 0 _ rfl
        obtain ⟨n0, n1⟩ := k3 0 _ rfl
        rw [Nat.zero_mul, Nat.add_zero] at m0 m1 n0 n1
        have q1 : (TEN.toList == TEN.toList) = true := beq_self_eq_true _
        have q2 : (X.toList == X.toList) = true := beq_self_eq_true _
        obtain ⟨T, hT⟩ : ∃ T, TEN = T := ⟨_, rfl⟩
        replace m0 : w5.cell? ⟨b2, o2, none⟩ = some (.string T) := by rw [← hT]; exact m0
        replace n0 : w5.cell? ⟨b3, o3, none⟩ = some (.string T) := by rw [← hT]; exact n0
        rw [hT] at q1
        replace m1 : w5.cell? ⟨b2, o2 + 1, none⟩ = some (.string X) := m1
        replace n1 : w5.cell? ⟨b3, o3 + 1, none⟩ = some (.string X) := n1
        clear HV2 HV3 HL k2 k3 hT
        go_wp2_with fail
        go_quiet (fail)
        replace HS := Lib.hid (HS.out.step (belowN _ nq))
        have HV6 := Lib.hid (HV4.out.since (belowN _ nq))
        have HV7 := Lib.hid (HV5.out.since (belowN _ nq))
        clear HV4 HV5
        go_wp2_with fail
        refine (cE.calls0 HV6.out HV7.out) ?_
        intro w6 h6
        replace HS := Lib.hid (HS.out.step (by first | exact h6 | exact (Since.alloc (Since.refl _) _).step h6 | exact (Since.alloc (Since.alloc (Since.refl _) _) _).step h6 | exact (Since.drew (Since.refl _)).step h6 | exact (Since.alloc (Since.alloc (Since.alloc (Since.refl _) _) _) _).step h6))
        clear h6
        go_wp2_with fail
        refine (cA.calls0) ?_
        intro w7 h7
        replace HS := Lib.hid (HS.out.step (by first | exact h7 | exact (Since.alloc (Since.refl _) _).step h7 | exact (Since.alloc (Since.alloc (Since.refl _) _) _).step h7 | exact (Since.drew (Since.refl _)).step h7 | exact (Since.alloc (Since.alloc (Since.alloc (Since.refl _) _) _) _).step h7))
        clear h7
        go_wp2_with fail
        go_ret
        exact ⟨rfl, HS.out⟩
set_option maxRecDepth 100000 in
set_option maxHeartbeats 4000000 in
theorem core_big (w : World) (A B : Option Addr) (n c m d : Nat) (l : List A2) (hx : AttsS w (.slice A n c) l) (q : Bool) (hq : q = false ∨ 10 < m)
    (cF : RdA 6 l (fun x => #[x, .int .i64 60]) (.bool q)) :
    Calls Try.prog 4 #[.slice A n c, .slice B m d] w fun x w' => x = .returned (.bool true) ∧ Since w w' := by
  have HS := Lib.hid (Since.refl w)
  have HX := Lib.hid hx
  have cA := awake_mak
  clear hx
  cases q with
  | false =>
    clear hq
    go_enter Try.func4, Try.ntmps4
    go_wp2_with fail
    refine (cF.calls0 HX.out) ?_
    intro w1 h1
    replace HX := Lib.hid (HX.out.since (by first | exact h1 | exact (Since.alloc (Since.refl _) _).step h1 | exact (Since.alloc (Since.alloc (Since.refl _) _) _).step h1 | exact (Since.drew (Since.refl _)).step h1 | exact (Since.alloc (Since.alloc (Since.alloc (Since.refl _) _) _) _).step h1))
    replace HS := Lib.hid (HS.out.step (by first | exact h1 | exact (Since.alloc (Since.refl _) _).step h1 | exact (Since.alloc (Since.alloc (Since.refl _) _) _).step h1 | exact (Since.drew (Since.refl _)).step h1 | exact (Since.alloc (Since.alloc (Since.alloc (Since.refl _) _) _) _).step h1))
    clear h1
    go_wp2_with fail
    refine (cA.calls0) ?_
    intro w7 h7
    replace HS := Lib.hid (HS.out.step (by first | exact h7 | exact (Since.alloc (Since.refl _) _).step h7 | exact (Since.alloc (Since.alloc (Since.refl _) _) _).step h7 | exact (Since.drew (Since.refl _)).step h7 | exact (Since.alloc (Since.alloc (Since.alloc (Since.refl _) _) _) _).step h7))
    clear h7
    go_wp2_with fail
    go_ret
    exact ⟨rfl, HS.out⟩
  | true =>
    have t1 : decide ((10 : Int) < (m : Int)) = true := decide_eq_true (by rcases hq with h | h; cases h; omega)
    clear hq
    go_enter Try.func4, Try.ntmps4
    go_wp2_with fail
    refine (cF.calls0 HX.out) ?_
    intro w1 h1
    replace HX := Lib.hid (HX.out.since (by first | exact h1 | exact (Since.alloc (Since.refl _) _).step h1 | exact (Since.alloc (Since.alloc (Since.refl _) _) _).step h1 | exact (Since.drew (Since.refl _)).step h1 | exact (Since.alloc (Since.alloc (Since.alloc (Since.refl _) _) _) _).step h1))
    replace HS := Lib.hid (HS.out.step (by first | exact h1 | exact (Since.alloc (Since.refl _) _).step h1 | exact (Since.alloc (Since.alloc (Since.refl _) _) _).step h1 | exact (Since.drew (Since.refl _)).step h1 | exact (Since.alloc (Since.alloc (Since.alloc (Since.refl _) _) _) _).step h1))
    clear h1
    go_wp2_with fail
    refine (cA.calls0) ?_
    intro w7 h7
    replace HS := Lib.hid (HS.out.step (by first | exact h7 | exact (Since.alloc (Since.refl _) _).step h7 | exact (Since.alloc (Since.alloc (Since.refl _) _) _).step h7 | exact (Since.drew (Since.refl _)).step h7 | exact (Since.alloc (Since.alloc (Since.alloc (Since.refl _) _) _) _).step h7))
    clear h7
    go_wp2_with fail
    go_ret
    exact ⟨rfl, HS.out⟩
set_option maxRecDepth 100000 in
theorem walk (w : World) (A : Option Addr) (n c : Nat) (l : List A2) (B : Option Addr) (m d : Nat) (o : List P2) (hx : AttsS w (.slice A n c) l) (_hn : n = l.length) (_hl : ∀ p ∈ l, (Lit.int .i64 p.1).wf = true ∧ p.2.size ≤ maxLen)
    (hy : Opt.OptsS w (.slice B m d) o) (hm : m = o.length) (_ho : ∀ p ∈ o, p.1.size ≤ maxLen ∧ p.2.size ≤ maxLen) :
    Calls Try.prog 4 #[.slice A n c, .slice B m d] w fun e w' => e = .returned (.bool true) ∧ Below w.heap.size w w' := by
  by_cases hb : fewB l 60 = false ∨ 10 < m
  · exact core_big w A B n c m d l hx _ hb (few_rd l 60 (by decide) _ rfl)
  · have hf : fewB l 60 = true := by cases h : fewB l 60 with | true => rfl | false => exact absurd (Or.inl h) hb
    have cF := few_rd l 60 (by decide) true hf.symm
    have hL : oL l = [] ∨ ∃ X, oL l = [(TEN, X)] := by
      unfold oL
      split
      · exact Or.inr ⟨_, rfl⟩
      · exact Or.inl rfl
    by_cases h0 : o.length = 0
    · obtain rfl := List.length_eq_zero_iff.1 h0
      obtain rfl : m = 0 := hm
      exact core_nil w A B n c d l hx hy cF _ _ hL (options_mk l) (roptions_mk l) _ _ (from_mk [] (by simp) decode_mk) (rfrom_mk [] (by simp) rdecode_mk)
    · exact core w A B n c m d l o hx hy (by omega) (by omega) cF _ _ hL (options_mk l) (roptions_mk l) (fL o) (fE o) (fun hk => by
        have hz : ∀ p ∈ o, p.2.size ≤ 1000000 := fun p hp => by
          have h2 := hk p hp
          unfold okP at h2
          rw [Bool.and_eq_true] at h2
          have := of_decide_eq_true h2.2
          omega
        exact ⟨from_mk o hz decode_mk, rfrom_mk o hz rdecode_mk⟩)

set_option maxRecDepth 100000 in
theorem own : ownKnob Try.prog.godebug = none := by kernel_rfl
set_option maxRecDepth 100000 in
theorem laidOut : laidOutB Try.prog = true := by kernel_rfl

set_option maxRecDepth 100000 in
theorem lifted (os : Os) (started : os.Started) (H : Type) (enc : TypeId × Value → H) :
    ReturnsInHanded {} Try.checked os 4 .any (Rows.templOptionsSpec.pre6 enc Try.prog Try.f4 Rows.templOptionsRow.domain false) (Rows.templOptionsSpec.post enc Try.prog Try.f4 false true false false) := by
  refine returnsInHanded_of_change (C := Try.checked) own started (by kernel_rfl) Try.func4
    (ChangeSpec.witness6 (enc := enc) (C := Try.checked) false ⟨#[], #[.slice none 0 0, .slice none 0 0], []⟩ 8 (by kernel_rfl) (by kernel_rfl) (by kernel_rfl) (by kernel_rfl)) ?_
  intro W base args ds gs before hval0 hW hcnd _
  have hval : ∀ (j : Nat) t v, Try.f4.params[j]? = some t → args[j]? = some v → Value.okWide Try.prog W .any base t v := hval0
  have hW' := hW
  obtain ⟨p, q, hA0, hV, rfl, hfz, hnd⟩ := hW
  have hA : DataW.TrodAll enc Try.prog W 0 (fun _ => true) true Try.f4.params.toList args.toList ds p := hA0
  rw [Try.params4] at hA hval
  obtain ⟨v0, vs0, d0, ds0, p0, q0, hargs, rfl, rfl, h0, r0⟩ := trodAll_cons hA
  obtain ⟨v1, vs1, d1, ds1, p1, q1, rfl, rfl, rfl, h1, r1⟩ := trodAll_cons r0
  obtain ⟨rfl, rfl, rfl⟩ := trodAll_nil r1
  obtain rfl : args = #[v0, v1] := by cases args; simp_all
  obtain ⟨rfl, rfl⟩ := trodVars_none hV
  obtain ⟨a0, n0, c0, rfl⟩ := okWide_slice Try.underlying22 (hval 0 22 v0 rfl rfl)
  have h0k := h0
  obtain ⟨fuel0, hf0⟩ := h0
  have hlt0 : ∀ x ∈ p0, x.block < W.heap.size := fun x hx => by simpa using hW'.lt x (by simp [hx])
  obtain ⟨x0, lA0, lN0, lX0⟩ := atts_arg hf0 hlt0
  obtain ⟨a1, n1, c1, rfl⟩ := okWide_slice Try.underlying32 (hval 1 32 v1 rfl rfl)
  have h1k := h1
  obtain ⟨fuel1, hf1⟩ := h1
  have hlt1 : ∀ x ∈ p1, x.block < W.heap.size := fun x hx => by simpa using hW'.lt x (by simp [hx])
  obtain ⟨x1, lA1, lN1, lX1⟩ := opts_arg hf1 hlt1
  clear hA0 hval0
  simp only [List.append_nil] at hW'
  refine (walk W a0 n0 c0 x0 a1 n1 c1 x1 lA0 lN0 lX0 lA1 lN1 lX1).mono fun e W' ⟨he, hg⟩ => ?_
  subst he
  exact ⟨_, rfl, _, _, _, _, _, [], hW', (trodAll_cons_mk (shut_bool Try.underlying4 _) trodAll_mk0), (trodAll_cons_mk (Below.trod laidOut (by kernel_rfl) (of_decide_eq_true (by kernel_rfl)) h0k hg hlt0) (trodAll_cons_mk (Below.trod laidOut (by kernel_rfl) (of_decide_eq_true (by kernel_rfl)) h1k hg hlt1) trodAll_mk0)), rfl, hg.frame _, fun h => by cases h⟩

set_option maxRecDepth 100000 in
theorem over : Rows.templOptionsRow.holds Try.pinned (OpenSpec.ofChange Rows.templOptionsSpec) :=
  OpenClaim.holds_of_wide 4 Try.f4 rfl rfl rfl rfl rfl rfl rfl ⟨rfl, rfl, rfl, rfl, rfl⟩ rfl rfl rfl rfl rfl (by kernel_rfl) Try.func4 (by kernel_rfl)
    (of_decide_eq_true (by kernel_rfl)) (by unfold Func.isWrapper; first | (rw [if_pos (by decide +kernel)]; kernel_rfl) | (rw [if_neg (by decide +kernel)]; exact ⟨rfl, rfl⟩))
    (fun os started H enc _ => lifted os started H enc)

theorem proved : Rows.TemplOptionsSaid :=
  over

end Go.Proofs.Ytoledeeefcbgnaa.templOptions
