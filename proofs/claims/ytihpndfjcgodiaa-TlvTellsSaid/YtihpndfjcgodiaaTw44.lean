/- Joined texts. -/
-- PACK: YtihpndfjcgodiaaRefHeadG
import Derived.Test.YtihpndfjcgodiaaTw40
import Derived.Test.YtihpndfjcgodiaaTw41

/- The reference of package head: Decode, whole. -/
namespace Go.Proofs.Ytihpndfjcgodiaa
open Go.RowKit
namespace RefHead
open Head

theorem encL_0 (c t : Nat) (b : Bool) : encL c t b 0 = tagL c t b ++ [0] := rfl
theorem tagL_pos (c t : Nat) (b : Bool) : 1 ≤ (tagL c t b).length ∧ (tagL c t b).length ≤ 4 := by
  refine ⟨?_, tagL_len c t b⟩
  unfold tagL
  split
  · simp
  · simp
theorem cut_0 (c t : Nat) (b : Bool) : (bs (encL c t b 0)).extract 0 ((bs (encL c t b 0)).size - 1) = bs (tagL c t b) := by
  apply ba_ext
  rw [ext_list, list_bs, list_bs, size_bs, encL_0]
  simp
theorem ext_eq (s : ByteArray) (k : Nat) (l : List UInt8) : bs l = s.extract 0 k ↔ l = s.data.toList.take k := by
  constructor
  · intro h
    have h2 := congrArg (fun x : ByteArray => x.data.toList) h
    simp only [list_bs, ext_list] at h2
    simpa using h2
  · intro h
    apply ba_ext
    rw [ext_list, list_bs, h]
    simp
theorem take_split (l : List UInt8) (k n : Nat) (T M : List UInt8) (hT : T = l.take k) (_hk : k ≤ l.length) : T ++ M = l.take (k + n) ↔ M = (l.drop k).take n := by
  rw [List.take_add, hT, List.append_cancel_left_eq]
theorem lenL_lt (L : Nat) (h : L < 256) (x y z : UInt8) (r : List UInt8) : ¬ lenL L = x :: List.take 2 (y :: z :: r) := by
  intro hc
  have h9 := congrArg List.length hc
  unfold lenL at h9
  rw [if_pos h] at h9
  split at h9 <;> simp at h9
theorem rd_mak (s : ByteArray) (hm : s.size ≤ 1000000) (V : Value) (hV : V = decV (dec s.data.toList)) : Mak 45 #[.string s] V := by
  have c1 := rt_mak s hm _ rfl
  unfold dec at hV
  rw [tagR_r] at hV
  cases ht : rtagR s.data.toList with
  | none =>
    rw [ht] at hV c1
    rw [hV]
    exact rd_none s c1
  | some q =>
    obtain ⟨c, t, b, k⟩ := q
    rw [ht] at hV c1
    simp only [] at hV
    obtain ⟨h1, h2, h3, h4, h5⟩ := rtagR_b _ _ _ _ _ ht
    have h5' : k ≤ s.size := h5
    have c2 := renc_ok c t 0 b h1 h2 (by decide) _ rfl
    have hA : (bs (encL c t b 0)).size ≤ 7 ∧ 1 ≤ (bs (encL c t b 0)).size := by
      have := encL_len c t b 0
      rw [size_bs]; omega
    obtain ⟨hA, hA1⟩ := hA
    by_cases he : tagL c t b = s.data.toList.take k
    · rw [if_pos he] at hV
      simp only [] at hV
      have heq : (bs (encL c t b 0)).extract 0 ((bs (encL c t b 0)).size - 1) = s.extract 0 k := by rw [cut_0]; exact (ext_eq s k _).2 he
      by_cases hend : k = s.size
      · have hnil : s.data.toList.drop k = [] := List.drop_eq_nil_of_le (by show s.size ≤ k; omega)
        rw [hnil] at hV
        rw [hV]
        exact rd_end s hm c t b k h3 h5' _ hA hA1 c1 c2 heq hend
      · have hlt : k < s.size := by omega
        have hd := drop_cons s k hlt
        rw [hd] at hV
        have hx := s[k].toNat_lt
        by_cases a1 : s[k].toNat = 128
        · simp only [lenR, a1, if_true] at hV
          rw [hV]
          exact rd_128 s hm c t b k h3 h5' _ hA hA1 c1 c2 heq hlt a1
        · by_cases a2 : s[k].toNat < 128
          · simp only [lenR, a1, a2, if_true, if_false] at hV
            have hl := encL_len c t b s[k].toNat
            have c3 := renc_ok c t s[k].toNat b h1 h2 (by omega) _ rfl
            have hne : bs (encL c t b s[k].toNat) = s.extract 0 (k + 1) := by
              rw [ext_eq]
              unfold encL
              rw [take_split _ k 1 _ _ he h5, hd]
              unfold lenL
              rw [if_pos a2]
              simp
            have hg := rd_one_eq s hm c t b k h3 h5' _ hA hA1 c1 c2 heq hlt a2 _ (by rw [size_bs]; omega) c3 hne
            have hsz : (bs (encL c t b s[k].toNat)).size = k + 1 := by rw [hne]; simp; omega
            rw [hsz] at hg
            rw [hV]
            exact hg
          · by_cases a3 : 130 < s[k].toNat
            · simp only [lenR, a1, a2, a3, if_true, if_false] at hV
              rw [hV]
              exact rd_size s hm c t b k h3 h5' _ hA hA1 c1 c2 heq hlt a3
            · have hmore : ∀ m : Nat, 1 ≤ m → m ≤ 2 → s[k].toNat = 128 + m → ∀ L : Nat, k + 1 + m ≤ s.size → L = Oct.numN ((s.data.toList.drop (k + 1)).take m) → L ≤ 65535 →
                  Mak 45 #[.string s] (if lenL L = s[k] :: (s.data.toList.drop (k + 1)).take m then decV (⟨c, t, b, L⟩, k + (1 + m), 0) else decV (none0, 0, 5)) := by
                intro m hm1 hm2 hv L hfew hL hL2
                have c3 := renc_ok c t L b h1 h2 hL2 _ rfl
                have hl := encL_len c t b L
                have hxl : (s.extract (k + 1) (k + 1 + m)).data.toList = (s.data.toList.drop (k + 1)).take m := by rw [ext_list]; congr 1; omega
                have hxs : (s.extract (k + 1) (k + 1 + m)).size = m := by simp; omega
                have cg : Ret 65 #[.string (s.extract (k + 1) (k + 1 + m))] (.tuple #[.int .u64 (L : Int), .bool true]) := fun w => by
                  have h := RefOct.get_in (s.extract (k + 1) (k + 1 + m)) w (by omega) (by omega)
                  rwa [hxl, ← hL] at h
                have hiff : bs (encL c t b L) = s.extract 0 (k + 1 + m) ↔ lenL L = s[k] :: (s.data.toList.drop (k + 1)).take m := by
                  rw [ext_eq]
                  unfold encL
                  rw [show k + 1 + m = k + (1 + m) from by omega, take_split _ k (1 + m) _ _ he h5, hd, Nat.add_comm 1 m, List.take_succ_cons]
                by_cases hc : lenL L = s[k] :: (s.data.toList.drop (k + 1)).take m
                · rw [if_pos hc]
                  have hg := rd_more_eq s hm c t b k h3 h5' _ hA hA1 c1 c2 heq hlt m hm1 hm2 hv hfew L hL2 cg _ (by rw [size_bs]; omega) c3 (hiff.2 hc)
                  have hsz : (bs (encL c t b L)).size = k + (1 + m) := by rw [hiff.2 hc]; simp; omega
                  rw [hsz] at hg
                  exact hg
                · rw [if_neg hc]
                  exact rd_more_ne s hm c t b k h3 h5' _ hA hA1 c1 c2 heq hlt m hm1 hm2 hv hfew L hL2 cg _ (by rw [size_bs]; omega) c3 (fun h => hc (hiff.1 h))
              have hxv : s[k] = UInt8.ofNat (s[k].toNat) := by simp
              by_cases a4 : s[k].toNat = 129
              · simp only [lenR, a4] at hV
                by_cases hfew : k + 1 + 1 ≤ s.size
                · have hd2 := drop_cons s (k + 1) (by omega)
                  have hx2 := s[k + 1].toNat_lt
                  have h := hmore 1 (by omega) (by omega) a4 s[k + 1].toNat hfew (by rw [hd2]; simp [Oct.numN]) (by omega)
                  rw [hd2] at h hV
                  have e129 : s[k] = 129 := UInt8.toNat_inj.1 a4
                  simp at hV
                  by_cases hc : 128 ≤ s[k + 1].toNat
                  · rw [if_pos hc] at hV
                    rw [if_pos (by unfold lenL; rw [if_neg (by omega), if_pos hx2, e129]; simp)] at h
                    rw [hV]
                    exact h
                  · rw [if_neg hc] at hV
                    rw [if_neg (by unfold lenL; rw [if_pos (by omega)]; simp)] at h
                    rw [hV]
                    exact h
                · have hnil : s.data.toList.drop (k + 1) = [] := List.drop_eq_nil_of_le (by show s.size ≤ k + 1; omega)
                  rw [hnil] at hV
                  simp at hV
                  rw [hV]
                  exact rd_few s hm c t b k h3 h5' _ hA hA1 c1 c2 heq hlt 1 (by omega) (by omega) a4 (by omega)
              · have e130 : s[k].toNat = 130 := by omega
                simp only [lenR, e130] at hV
                have e130' : s[k] = 130 := UInt8.toNat_inj.1 e130
                by_cases hfew : k + 1 + 2 ≤ s.size
                · have hd2 := drop_cons s (k + 1) (by omega)
                  have hd3 := drop_cons s (k + 1 + 1) (by omega)
                  have hx2 := s[k + 1].toNat_lt
                  have hx3 := s[k + 1 + 1].toNat_lt
                  have h := hmore 2 (by omega) (by omega) e130 (256 * s[k + 1].toNat + s[k + 1 + 1].toNat) hfew (by rw [hd2, hd3]; simp [Oct.numN]; omega) (by omega)
                  rw [hd2, hd3] at h hV
                  simp at hV
                  by_cases hc : 256 ≤ 256 * s[k + 1].toNat + s[k + 1 + 1].toNat
                  · rw [if_pos hc] at hV
                    rw [if_pos (by unfold lenL; rw [if_neg (by omega), if_neg (by omega), e130', show (256 * s[k + 1].toNat + s[k + 1 + 1].toNat) / 256 = s[k + 1].toNat from by omega, show (256 * s[k + 1].toNat + s[k + 1 + 1].toNat) % 256 = s[k + 1 + 1].toNat from by omega]; simp)] at h
                    rw [hV]
                    exact h
                  · rw [if_neg hc] at hV
                    rw [if_neg (lenL_lt _ (by omega) _ _ _ _)] at h
                    rw [hV]
                    exact h
                · have hV2 : V = decV (none0, 0, 5) := by
                    have hlen : (s.data.toList.drop (k + 1)).length ≤ 1 := by rw [List.length_drop]; show s.size - (k + 1) ≤ 1; omega
                    match hdd : s.data.toList.drop (k + 1), hlen with
                    | [], _ => rw [hdd] at hV; simpa using hV
                    | [x], _ => rw [hdd] at hV; simpa using hV
                    | x :: y :: z, hlen => simp at hlen
                  rw [hV2]
                  exact rd_few s hm c t b k h3 h5' _ hA hA1 c1 c2 heq hlt 2 (by omega) (by omega) e130 (by omega)
    · rw [if_neg he] at hV
      rw [hV]
      exact rd_tag s hm c t b k h3 h5' _ hA hA1 c1 c2 (by rw [cut_0]; exact fun h => he ((ext_eq s k _).1 h))
end RefHead
end Go.Proofs.Ytihpndfjcgodiaa
