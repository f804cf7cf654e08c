/- What the law calls awake, for layer 8. -/
import Derived.Test.YtoblmddnefmpoaaRefSched2
import Derived.Test.YtoblmddnefmpoaaSlEq
namespace Go.Proofs.Ytoblmddnefmpoaa
open Go.RowKit
namespace Sched

theorem MakE.calls {f : Nat} {args : Array Value} {ss : List ByteArray} {e : Int} (h : MakE f args ss e) {W0 w : World} (hs : Since W0 w) {R : Ending → World → Prop} (k : ∀ v w', StrsR w' v ss → Below w.heap.size w w' → Since W0 w' → R (.returned (.tuple #[v, .int .i64 e])) w') : Calls Try.prog f args w R :=
  (h w).mono fun _ _ ⟨v, he, ho, hb⟩ => by subst he; exact k v _ ho hb (hs.step hb)
theorem StrsR.nil (w : World) : StrsR w (.slice none 0 0) [] := ⟨Nat.zero_le _, none, 0, rfl, Or.inl rfl⟩
theorem MakE.nil {f : Nat} {args : Array Value} {e : Int} (h : Ret f args (.tuple #[.slice none 0 0, .int .i64 e])) : MakE f args [] e := fun w => (h w).mono fun _ _ ⟨he, hw⟩ => ⟨_, he, by subst hw; exact ⟨StrsR.nil _, Below.refl _ _⟩⟩
theorem MakS.nil {f : Nat} {args : Array Value} (h : Ret f args (.slice none 0 0)) : MakS f args [] := fun w => (h w).mono fun _ _ ⟨he, hw⟩ => ⟨_, he, by subst hw; exact ⟨World.ownsRow_nil _ _ _ _, Below.refl _ _⟩⟩
theorem StrsR.form {w : World} {v : Value} {ss : List ByteArray} (h : StrsR w v ss) (hn : 0 < ss.length) : ∃ b o c : Nat, v = .slice (some ⟨b, o, none⟩) ss.length c ∧ b < w.heap.size ∧ ∀ i, i < ss.length → w.cell? ⟨b, o + i, none⟩ = some (.string (ss.getD i ⟨#[]⟩)) := by
  obtain ⟨_, A, c, rfl, h2⟩ := h
  rcases h2 with rfl | ⟨ad, rfl, hlt, hc⟩
  · simp at hn
  · obtain ⟨b, o, sp⟩ := ad
    have hsp : sp = none := by simpa [Addr.add] using World.cell?_spot (hc 0 hn)
    subst hsp
    exact ⟨b, o, c, rfl, hlt, fun i hi => by
      have hadd : (⟨b, o, none⟩ : Addr).add i = ⟨b, o + i, none⟩ := by unfold Addr.add; split <;> simp_all
      rw [← hadd]; exact hc i hi⟩
set_option maxRecDepth 100000 in
set_option maxHeartbeats 4000000 in
theorem awake_mak : Mak 41 #[] (.bool true) := by
  intro w
  have H0 := Lib.hid (Since.refl w)
  have c1 := words_mak ⟨#[43, 126, 21, 22, 40, 174, 210, 166, 171, 247, 21, 136, 9, 207, 79, 60]⟩ 4 (Or.inl rfl) rfl
  have c2 := keys_yes ⟨#[48, 49, 50, 51, 52, 53, 54, 55, 56, 57, 97, 98, 99, 100, 101, 102]⟩ 4 (Or.inl rfl) rfl
  have c3 := keys_no ⟨#[48]⟩ (by decide) (by decide)
  have c4 := rounds_yes 32 (by decide) 14 rfl
  obtain ⟨ws, hws⟩ : ∃ ws, ws = wordsL (⟨#[43, 126, 21, 22, 40, 174, 210, 166, 171, 247, 21, 136, 9, 207, 79, 60]⟩ : ByteArray).data.toList 4 := ⟨_, rfl⟩
  have w44 : ws.length = 44 := by rw [hws, wordsL_len]
  have w4 : ws.getD 4 ⟨#[]⟩ = ⟨#[160, 250, 254, 23]⟩ := by rw [hws]; decide +kernel
  obtain ⟨ks, hks⟩ : ∃ ks, ks = keysL (⟨#[48, 49, 50, 51, 52, 53, 54, 55, 56, 57, 97, 98, 99, 100, 101, 102]⟩ : ByteArray).data.toList 4 := ⟨_, rfl⟩
  have k11 : ks.length = 11 := by rw [hks, keysL_len]
  have k0 : ks.getD 0 ⟨#[]⟩ = ⟨#[48, 49, 50, 51, 52, 53, 54, 55, 56, 57, 97, 98, 99, 100, 101, 102]⟩ := by rw [hks]; decide +kernel
  rw [← hws] at c1
  rw [← hks] at c2
  have W44 := Lib.hid w44
  have W4 := Lib.hid w4
  have K11 := Lib.hid k11
  have K0 := Lib.hid k0
  clear hws hks w44 w4 k11 k0
  go_enter Try.func41, Try.ntmps41
  go_wp2_with fail
  refine c1.calls H0.out ?_
  intro v1 w1 ho1 hb1 h1
  obtain ⟨b1, o1, cap1, rfl, hlt1, hc1⟩ := StrsR.form (Strs.read ho1) (by rw [W44.out]; decide)
  have d1 := hc1 4 (by rw [W44.out]; decide)
  rw [W4.out] at d1
  rw [W44.out]
  have H1 := Lib.hid h1
  clear h1
  clear ho1 hb1 hc1
  go_wp2_with fail
  refine c2.calls H1.out ?_
  intro v2 w2 ho2 hb2 h2
  have d2 := (hb2.cell (p := ⟨b1, o1 + 4, none⟩) hlt1).trans d1
  obtain ⟨b2, o2, cap2, rfl, hlt2, hc2⟩ := StrsR.form ho2 (by rw [K11.out]; decide)
  have d3 := hc2 0 (by rw [K11.out]; decide)
  rw [K0.out, Nat.add_zero] at d3
  rw [K11.out]
  have H2 := Lib.hid h2
  clear h2
  clear ho2 hb2 hc2 d1
  go_wp2_with fail
  refine (c3).calls ?_
  go_wp2_with fail
  refine (c4).calls ?_
  go_wp2_with fail
  go_ret
  exact ⟨rfl, H2.out⟩
end Sched
end Go.Proofs.Ytoblmddnefmpoaa
