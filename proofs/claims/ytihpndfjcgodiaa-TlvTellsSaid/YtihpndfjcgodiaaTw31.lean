/- Joined texts. -/
-- PACK: YtihpndfjcgodiaaTlvM YtihpndfjcgodiaaTlvR YtihpndfjcgodiaaRefHeadT
import Derived.Test.YtihpndfjcgodiaaTw30
import Derived.RegionTactic
import Derived.ChangeAlike

/- Elements within one another: plain mathematics: forests, and how they are decoded. -/
namespace Go.Proofs.Ytihpndfjcgodiaa
namespace Tlv
/-- a node: class, tag, mark, bytes, kids -/
structure Nd where
  c : Int
  t : Int
  b : Bool
  d : ByteArray
  k : List Int
/-- elements one behind the other, each with what it is made of -/
inductive F where
  | nil : F
  | prim (c t : Nat) (d : ByteArray) (nx : F) : F
  | cons (c t : Nat) (ks nx : F) : F
namespace F
def cnt : F → Nat
  | nil => 0
  | prim _ _ _ nx => 1 + nx.cnt
  | cons _ _ ks nx => 1 + ks.cnt + nx.cnt
def app : F → F → F
  | nil, g => g
  | prim c t d nx, g => prim c t d (nx.app g)
  | cons c t ks nx, g => cons c t ks (nx.app g)
/-- the numbers of those that stand outermost, the first being number i -/
def tops : F → Nat → List Int
  | nil, _ => []
  | prim _ _ _ nx, i => (i : Int) :: nx.tops (i + 1)
  | cons _ _ ks nx, i => (i : Int) :: nx.tops (i + 1 + ks.cnt)
def flat : F → Nat → List Nd
  | nil, _ => []
  | prim c t d nx, i => ⟨c, t, false, d, []⟩ :: nx.flat (i + 1)
  | cons c t ks nx, i => ⟨c, t, true, ⟨#[]⟩, ks.tops (i + 1)⟩ :: (ks.flat (i + 1) ++ nx.flat (i + 1 + ks.cnt))
def enc : F → List UInt8
  | nil => []
  | prim c t d nx => Head.encL c t false d.size ++ d.data.toList ++ nx.enc
  | cons c t ks nx => Head.encL c t true ks.enc.length ++ ks.enc ++ nx.enc
def spans : F → Nat → List (Nat × Nat)
  | nil, _ => []
  | prim c t d nx, p => (p, p + ((Head.encL c t false d.size).length + d.size)) :: nx.spans (p + ((Head.encL c t false d.size).length + d.size))
  | cons c t ks nx, p => (p, p + ((Head.encL c t true ks.enc.length).length + ks.enc.length)) :: (ks.spans (p + (Head.encL c t true ks.enc.length).length) ++ nx.spans (p + ((Head.encL c t true ks.enc.length).length + ks.enc.length)))
def deep : F → Nat
  | nil => 0
  | prim _ _ _ nx => max 1 nx.deep
  | cons _ _ ks nx => max (ks.deep + 1) nx.deep
theorem app_nil (f : F) : f.app nil = f := by
  induction f with
  | nil => rfl
  | prim c t d nx ih => show prim c t d (nx.app nil) = _; rw [ih]
  | cons c t ks nx _ ih => show cons c t ks (nx.app nil) = _; rw [ih]
theorem app_assoc (f g h : F) : (f.app g).app h = f.app (g.app h) := by
  induction f with
  | nil => rfl
  | prim c t d nx ih => show prim c t d _ = prim c t d _; rw [ih]
  | cons c t ks nx _ ih => show cons c t ks _ = cons c t ks _; rw [ih]
theorem cnt_app (f g : F) : (f.app g).cnt = f.cnt + g.cnt := by
  induction f with
  | nil => exact (Nat.zero_add _).symm
  | prim c t d nx ih => show 1 + (nx.app g).cnt = 1 + nx.cnt + g.cnt; omega
  | cons c t ks nx _ ih => show 1 + ks.cnt + (nx.app g).cnt = 1 + ks.cnt + nx.cnt + g.cnt; omega
theorem tops_app (f g : F) (i : Nat) : (f.app g).tops i = f.tops i ++ g.tops (i + f.cnt) := by
  induction f generalizing i with
  | nil => rfl
  | prim c t d nx ih => show (i : Int) :: (nx.app g).tops (i + 1) = (i : Int) :: (nx.tops (i + 1) ++ g.tops (i + (1 + nx.cnt))); rw [ih, Nat.add_assoc]
  | cons c t ks nx _ ih => show (i : Int) :: (nx.app g).tops (i + 1 + ks.cnt) = (i : Int) :: (nx.tops (i + 1 + ks.cnt) ++ g.tops (i + (1 + ks.cnt + nx.cnt))); rw [ih]; simp only [Nat.add_assoc]
theorem flat_app (f g : F) (i : Nat) : (f.app g).flat i = f.flat i ++ g.flat (i + f.cnt) := by
  induction f generalizing i with
  | nil => rfl
  | prim c t d nx ih => show _ :: (nx.app g).flat (i + 1) = _ :: (nx.flat (i + 1) ++ g.flat (i + (1 + nx.cnt))); rw [ih, Nat.add_assoc]
  | cons c t ks nx _ ih =>
    show _ :: (ks.flat (i + 1) ++ (nx.app g).flat (i + 1 + ks.cnt)) = _ :: ((ks.flat (i + 1) ++ nx.flat (i + 1 + ks.cnt)) ++ g.flat (i + (1 + ks.cnt + nx.cnt)))
    rw [ih, List.append_assoc]; simp only [Nat.add_assoc]
theorem flat_len (f : F) (i : Nat) : (f.flat i).length = f.cnt := by
  induction f generalizing i with
  | nil => rfl
  | prim c t d nx ih => show (nx.flat (i + 1)).length + 1 = 1 + nx.cnt; rw [ih]; omega
  | cons c t ks nx ih1 ih2 => show (ks.flat (i + 1) ++ nx.flat (i + 1 + ks.cnt)).length + 1 = 1 + ks.cnt + nx.cnt; rw [List.length_append, ih1, ih2]; omega
theorem enc_app (f g : F) : (f.app g).enc = f.enc ++ g.enc := by
  induction f with
  | nil => rfl
  | prim c t d nx ih => show _ ++ _ ++ (nx.app g).enc = _ ++ _ ++ nx.enc ++ g.enc; rw [ih, ← List.append_assoc]
  | cons c t ks nx _ ih => show _ ++ _ ++ (nx.app g).enc = _ ++ _ ++ nx.enc ++ g.enc; rw [ih, ← List.append_assoc]
theorem spans_len (f : F) (p : Nat) : (f.spans p).length = f.cnt := by
  induction f generalizing p with
  | nil => rfl
  | prim c t d nx ih => show (nx.spans _).length + 1 = 1 + nx.cnt; rw [ih]; omega
  | cons c t ks nx ih1 ih2 => show (ks.spans _ ++ nx.spans _).length + 1 = 1 + ks.cnt + nx.cnt; rw [List.length_append, ih1, ih2]; omega
theorem enc_pos (f : F) (h : f ≠ nil) : 2 ≤ f.enc.length := by
  have key : ∀ c t b n, 2 ≤ (Head.encL c t b n).length := by
    intro c t b n
    unfold Head.encL Head.tagL Head.lenL Head.seg
    simp only [List.length_append]
    split <;> (try split) <;> (try split) <;> (try split) <;> (try split) <;> simp
  cases f with
  | nil => exact absurd rfl h
  | prim c t d nx => have := key c t false d.size; unfold enc; simp only [List.length_append]; omega
  | cons c t ks nx => have := key c t true ks.enc.length; unfold enc; simp only [List.length_append]; omega
end F
/-- may an element with such a head be, as far as its tag and its bytes go -/
def formB (R : Int → ByteArray → Bool) (h : Head.Hd) (d : ByteArray) : Bool := decide (h.c ≠ 0) || (if h.b then decide (h.t = 16) || decide (h.t = 17) else R (h.t : Int) d)
/-- the head that begins at p, ahead of e, and how many bytes it has; or why there is none -/
def look (R : Int → ByteArray → Bool) (s : ByteArray) (p e deep cnt : Nat) : Except Nat (Head.Hd × Nat) :=
  match Head.dec (s.extract p e).data.toList with
  | (h, k, x) => if x ≠ 0 then .error x else if e - p < k + h.n then .error 5 else if 16 < deep then .error 6 else if 1000 ≤ cnt then .error 4
    else if formB R h (s.extract (p + k) (p + k + h.n)) then .ok (h, k) else .error 5
/-- all elements from p to e, or why not, and where -/
def dec (R : Int → ByteArray → Bool) (s : ByteArray) : Nat → Nat → Nat → Nat → Nat → Except (Nat × Nat) F
  | 0, p, _, _, _ => .error (5, p)
  | f + 1, p, e, deep, cnt => if e ≤ p then .ok .nil else
    match look R s p e deep cnt with
    | .error c => .error (c, p)
    | .ok (h, k) => if h.b then
        match dec R s f (p + k) (p + k + h.n) (deep + 1) (cnt + 1) with
        | .error x => .error x
        | .ok ks => match dec R s f (p + k + h.n) e deep (cnt + 1 + ks.cnt) with
          | .error x => .error x
          | .ok nx => .ok (.cons h.c h.t ks nx)
      else match dec R s f (p + k + h.n) e deep (cnt + 1) with
        | .error x => .error x
        | .ok nx => .ok (.prim h.c h.t (s.extract (p + k) (p + k + h.n)) nx)
structure LookOk (R : Int → ByteArray → Bool) (s : ByteArray) (p e deep cnt : Nat) (h : Head.Hd) (k : Nat) : Prop where
  fit : k + h.n ≤ e - p
  pos : 2 ≤ k
  k7 : k ≤ 7
  c3 : h.c ≤ 3
  tm : h.t ≤ 2097151
  nm : h.n ≤ 65535
  deep : deep ≤ 16
  cnt : cnt < 1000
  form : formB R h (s.extract (p + k) (p + k + h.n)) = true
  enc : Head.encL h.c h.t h.b h.n = (s.extract p e).data.toList.take k
  len : (Head.encL h.c h.t h.b h.n).length = k
  hd : Head.dec (s.extract p e).data.toList = (h, k, 0)
theorem encL_two (c t : Nat) (b : Bool) (n : Nat) : 2 ≤ (Head.encL c t b n).length := by
  unfold Head.encL Head.tagL Head.lenL Head.seg
  simp only [List.length_append]
  split <;> (try split) <;> (try split) <;> (try split) <;> (try split) <;> simp
theorem look_ok {R : Int → ByteArray → Bool} {s : ByteArray} {p e deep cnt : Nat} {h : Head.Hd} {k : Nat} (hl : look R s p e deep cnt = .ok (h, k)) : LookOk R s p e deep cnt h k := by
  unfold look at hl
  obtain ⟨h', k', x, hd⟩ : ∃ h' k' x, Head.dec (s.extract p e).data.toList = (h', k', x) := ⟨_, _, _, rfl⟩
  rw [hd] at hl
  simp only at hl
  split at hl
  · cases hl
  · split at hl
    · cases hl
    · split at hl
      · cases hl
      · split at hl
        · cases hl
        · split at hl
          · cases hl
            rename_i h1 h2 h3 h4 h5
            have hx : x = 0 := by omega
            subst hx
            obtain ⟨g1, g2, g3, g4, g5⟩ := Head.enc_dec _ _ _ hd
            have gl : (Head.encL h.c h.t h.b h.n).length = k := by rw [g5, List.length_take]; omega
            have := encL_two h.c h.t h.b h.n
            have := (Head.encL_len h.c h.t h.b h.n).1
            exact ⟨by omega, by omega, by omega, g1, g2, g3, by omega, by omega, h5, g5, gl, hd⟩
          · cases hl
theorem look_lt {R : Int → ByteArray → Bool} {s : ByteArray} {p e deep cnt : Nat} {h : Head.Hd} {k : Nat} (hl : look R s p e deep cnt = .ok (h, k)) : p < e := by
  have := look_ok hl
  have := this.fit
  have := (look_ok hl).pos
  omega
theorem dec_fuel (R : Int → ByteArray → Bool) (s : ByteArray) : ∀ (f g p e deep cnt : Nat), e - p < f → e - p < g → dec R s f p e deep cnt = dec R s g p e deep cnt := by
  intro f
  induction f with
  | zero => intro g p e deep cnt h; omega
  | succ f ih =>
    intro g p e deep cnt h1 h2
    obtain ⟨g, rfl⟩ : ∃ g', g = g' + 1 := ⟨g - 1, by omega⟩
    unfold dec
    split
    · rfl
    · rename_i hp
      cases hl : look R s p e deep cnt with
      | error c => rfl
      | ok x =>
        obtain ⟨h, k⟩ := x
        have hk := look_ok hl
        have k1 := hk.fit
        have k2 := hk.pos
        simp only
        split
        · rw [ih g (p + k) (p + k + h.n) (deep + 1) (cnt + 1) (by omega) (by omega)]
          cases dec R s g (p + k) (p + k + h.n) (deep + 1) (cnt + 1) with
          | error x => rfl
          | ok ks =>
            simp only
            rw [ih g (p + k + h.n) e deep (cnt + 1 + ks.cnt) (by omega) (by omega)]
        · rw [ih g (p + k + h.n) e deep (cnt + 1) (by omega) (by omega)]
/-- all elements from p to e, with fuel enough -/
def decA (R : Int → ByteArray → Bool) (s : ByteArray) (p e deep cnt : Nat) : Except (Nat × Nat) F := dec R s (e - p + 1) p e deep cnt
theorem decA_nil (R : Int → ByteArray → Bool) (s : ByteArray) (p e deep cnt : Nat) (h : e ≤ p) : decA R s p e deep cnt = .ok .nil := by
  unfold decA dec
  rw [if_pos h]
theorem decA_step (R : Int → ByteArray → Bool) (s : ByteArray) (p e deep cnt : Nat) (h : p < e) : decA R s p e deep cnt =
    match look R s p e deep cnt with
    | .error c => .error (c, p)
    | .ok (h, k) => if h.b then
        match decA R s (p + k) (p + k + h.n) (deep + 1) (cnt + 1) with
        | .error x => .error x
        | .ok ks => match decA R s (p + k + h.n) e deep (cnt + 1 + ks.cnt) with
          | .error x => .error x
          | .ok nx => .ok (.cons h.c h.t ks nx)
      else match decA R s (p + k + h.n) e deep (cnt + 1) with
        | .error x => .error x
        | .ok nx => .ok (.prim h.c h.t (s.extract (p + k) (p + k + h.n)) nx) := by
  have hf : e - p + 1 = (e - p) + 1 := rfl
  unfold decA
  rw [hf]
  conv => lhs; unfold dec
  rw [if_neg (by omega)]
  cases hl : look R s p e deep cnt with
  | error c => rfl
  | ok x =>
    obtain ⟨h', k⟩ := x
    have hk := look_ok hl
    have k1 := hk.fit
    have k2 := hk.pos
    simp only
    split
    · rw [dec_fuel R s (e - p) (p + k + h'.n - (p + k) + 1) (p + k) (p + k + h'.n) (deep + 1) (cnt + 1) (by omega) (by omega)]
      cases dec R s (p + k + h'.n - (p + k) + 1) (p + k) (p + k + h'.n) (deep + 1) (cnt + 1) with
      | error x => rfl
      | ok ks =>
        simp only
        rw [dec_fuel R s (e - p) (e - (p + k + h'.n) + 1) (p + k + h'.n) e deep (cnt + 1 + ks.cnt) (by omega) (by omega)]
    · rw [dec_fuel R s (e - p) (e - (p + k + h'.n) + 1) (p + k + h'.n) e deep (cnt + 1) (by omega) (by omega)]
/-- one element, at p, ahead of e: it, and where it ends; or why not, and where -/
def one (R : Int → ByteArray → Bool) (s : ByteArray) (p e deep cnt : Nat) : Except (Nat × Nat) (F × Nat) :=
  match look R s p e deep cnt with
  | .error c => .error (c, p)
  | .ok (h, k) => if h.b then
      match decA R s (p + k) (p + k + h.n) (deep + 1) (cnt + 1) with
      | .error x => .error x
      | .ok ks => .ok (.cons h.c h.t ks .nil, p + k + h.n)
    else .ok (.prim h.c h.t (s.extract (p + k) (p + k + h.n)) .nil, p + k + h.n)
theorem decA_one (R : Int → ByteArray → Bool) (s : ByteArray) (p e deep cnt : Nat) (h : p < e) : decA R s p e deep cnt =
    match one R s p e deep cnt with
    | .error x => .error x
    | .ok (g, q) => match decA R s q e deep (cnt + g.cnt) with
      | .error x => .error x
      | .ok nx => .ok (g.app nx) := by
  rw [decA_step R s p e deep cnt h]
  unfold one
  cases look R s p e deep cnt with
  | error c => rfl
  | ok x =>
    obtain ⟨h', k⟩ := x
    simp only
    split
    · cases decA R s (p + k) (p + k + h'.n) (deep + 1) (cnt + 1) with
      | error x => rfl
      | ok ks =>
        simp only
        rw [show cnt + (F.cons h'.c h'.t ks .nil).cnt = cnt + 1 + ks.cnt by show cnt + (1 + ks.cnt + 0) = _; omega]
        rfl
    · rfl
/-- what the whole is: the tree, or the fault and where it is -/
def top (R : Int → ByteArray → Bool) (s : ByteArray) : Except (Nat × Nat) F :=
  if s.size = 0 then .error (3, 0) else if 65535 < s.size then .error (4, 0) else
  match one R s 0 s.size 1 0 with
  | .error x => .error x
  | .ok (g, q) => if q < s.size then .error (5, q) else .ok g
end Tlv
end Go.Proofs.Ytihpndfjcgodiaa

/- Elements within one another: what a walk that keeps the open ones has still to do. -/
namespace Go.Proofs.Ytihpndfjcgodiaa
namespace Tlv
theorem ext_app (s : ByteArray) (a b c : Nat) (h1 : a ≤ b) (h2 : b ≤ c) : (s.extract a c).data.toList = (s.extract a b).data.toList ++ (s.extract b c).data.toList := by
  simp only [ByteArray.data_extract, Array.toList_extract, List.extract_eq_take_drop]
  rw [show c - a = (b - a) + (c - b) by omega, List.take_add, List.drop_drop, show a + (b - a) = b by omega]
theorem ext_take (s : ByteArray) (a k c : Nat) (h : a + k ≤ c) : (s.extract a c).data.toList.take k = (s.extract a (a + k)).data.toList := by
  simp only [ByteArray.data_extract, Array.toList_extract, List.extract_eq_take_drop]
  rw [List.take_take, show min k (c - a) = a + k - a by omega]
theorem ext_len (s : ByteArray) (a b : Nat) (h : b ≤ s.size) : (s.extract a b).data.toList.length = b - a := by
  show (s.extract a b).size = _
  rw [ByteArray.size_extract]; omega
theorem dec_enc (R : Int → ByteArray → Bool) (s : ByteArray) : ∀ (f p e deep cnt : Nat) (x : F), p ≤ e → e ≤ s.size → dec R s f p e deep cnt = .ok x → x.enc = (s.extract p e).data.toList := by
  intro f
  induction f with
  | zero => intro p e deep cnt x _ _ h; cases h
  | succ f ih =>
    intro p e deep cnt x hp he h
    unfold dec at h
    split at h
    · rename_i hpe
      cases h
      have : e = p := by omega
      subst this
      have h9 := ext_len s e e he
      rw [Nat.sub_self] at h9
      exact (List.length_eq_zero_iff.1 h9).symm
    · cases hl : look R s p e deep cnt with
      | error c => rw [hl] at h; cases h
      | ok y =>
        obtain ⟨hh, k⟩ := y
        rw [hl] at h
        have lk := look_ok hl
        have l1 := lk.fit
        have l2 := lk.pos
        have hE := lk.enc
        rw [ext_take s p k e (by omega)] at hE
        dsimp only at h
        split at h
        · rename_i hb
          cases h1 : dec R s f (p + k) (p + k + hh.n) (deep + 1) (cnt + 1) with
          | error z => rw [h1] at h; cases h
          | ok ks =>
            rw [h1] at h
            dsimp only at h
            cases h2 : dec R s f (p + k + hh.n) e deep (cnt + 1 + ks.cnt) with
            | error z => rw [h2] at h; cases h
            | ok nx =>
              rw [h2] at h
              cases h
              have e1 := ih _ _ _ _ _ (by omega) (by omega) h1
              have e2 := ih _ _ _ _ _ (by omega) he h2
              have hn : ks.enc.length = hh.n := by rw [e1, ext_len s _ _ (by omega)]; omega
              show Head.encL hh.c hh.t true ks.enc.length ++ ks.enc ++ nx.enc = _
              rw [hn, show true = hh.b from hb.symm, hE, e1, e2, ← ext_app s p (p + k) (p + k + hh.n) (by omega) (by omega), ← ext_app s p (p + k + hh.n) e (by omega) (by omega)]
        · rename_i hb
          cases h2 : dec R s f (p + k + hh.n) e deep (cnt + 1) with
          | error z => rw [h2] at h; cases h
          | ok nx =>
            rw [h2] at h
            cases h
            have e2 := ih _ _ _ _ _ (by omega) he h2
            have hn : (s.extract (p + k) (p + k + hh.n)).size = hh.n := by rw [ByteArray.size_extract]; omega
            show Head.encL hh.c hh.t false (s.extract (p + k) (p + k + hh.n)).size ++ (s.extract (p + k) (p + k + hh.n)).data.toList ++ nx.enc = _
            rw [hn, show false = hh.b by cases hbb : hh.b with | true => exact absurd hbb hb | false => rfl, hE, e2, ← ext_app s p (p + k) (p + k + hh.n) (by omega) (by omega), ← ext_app s p (p + k + hh.n) e (by omega) (by omega)]
theorem decA_enc {R : Int → ByteArray → Bool} {s : ByteArray} {p e deep cnt : Nat} {x : F} (hp : p ≤ e) (he : e ≤ s.size) (h : decA R s p e deep cnt = .ok x) : x.enc.length = e - p := by
  rw [dec_enc R s _ p e deep cnt x hp he h, ext_len s p e he]
/-- kids are added to a node -/
def addK (ns : List Nd) (o : Nat) (ks : List Int) : List Nd := ns.modify o (fun x => { x with k := x.k ++ ks })
theorem addK_len (ns : List Nd) (o : Nat) (ks : List Int) : (addK ns o ks).length = ns.length := by unfold addK; simp
theorem addK_get (ns : List Nd) (o : Nat) (ks : List Int) (i : Nat) : (addK ns o ks)[i]? = (ns[i]?).map (fun a => if o = i then { a with k := a.k ++ ks } else a) := by
  unfold addK
  rw [List.getElem?_modify]
  cases ns[i]? <;> rfl
theorem addK_nil (ns : List Nd) (o : Nat) : addK ns o [] = ns := by
  apply List.ext_getElem?
  intro i
  rw [addK_get]
  cases ns[i]? with
  | none => rfl
  | some x =>
    rw [Option.map_some]
    congr 1
    split
    · rw [List.append_nil]
    · rfl
theorem addK_add (ns : List Nd) (o : Nat) (a b : List Int) : addK (addK ns o a) o b = addK ns o (a ++ b) := by
  apply List.ext_getElem?
  intro i
  rw [addK_get, addK_get, addK_get]
  cases ns[i]? with
  | none => rfl
  | some x =>
    simp only [Option.map_some]
    congr 1
    by_cases h : o = i
    · rw [if_pos h, if_pos h, if_pos h, List.append_assoc]
    · rw [if_neg h, if_neg h, if_neg h]
theorem addK_app (ns ms : List Nd) (o : Nat) (h : o < ns.length) (ks : List Int) : addK (ns ++ ms) o ks = addK ns o ks ++ ms := by
  apply List.ext_getElem?
  intro i
  rw [addK_get]
  by_cases hi : i < ns.length
  · rw [List.getElem?_append_left hi, List.getElem?_append_left (by rw [addK_len]; exact hi), addK_get]
  · rw [List.getElem?_append_right (by omega), List.getElem?_append_right (by rw [addK_len]; omega), addK_len]
    cases ms[i - ns.length]? with
    | none => rfl
    | some x => rw [Option.map_some, if_neg (by omega)]
theorem addK_last (ns : List Nd) (x : Nd) (ks : List Int) : addK (ns ++ [x]) ns.length ks = ns ++ [{ x with k := x.k ++ ks }] := by
  apply List.ext_getElem?
  intro i
  rw [addK_get]
  by_cases hi : i < ns.length
  · rw [List.getElem?_append_left hi, List.getElem?_append_left hi]
    cases ns[i]? with
    | none => rfl
    | some y => rw [Option.map_some, if_neg (by omega)]
  · rw [List.getElem?_append_right (by omega), List.getElem?_append_right (by omega)]
    by_cases h2 : i = ns.length
    · subst h2
      rw [Nat.sub_self]
      show some (if ns.length = ns.length then _ else _) = _
      rw [if_pos rfl]; rfl
    · rw [List.getElem?_eq_none (by simp; omega), List.getElem?_eq_none (by simp; omega)]; rfl
/-- all nodes, when the open elements have got what they have still to get -/
def fill : List Nd → List Nat → List F → List Nd
  | ns, o :: os, f :: fs => fill (addK ns o (f.tops ns.length) ++ f.flat ns.length) os fs
  | ns, _, _ => ns
def sfill : Nat → List Nat → List F → List (Nat × Nat)
  | p, e :: es, f :: fs => f.spans p ++ sfill e es fs
  | _, _, _ => []
/-- what stands between p and the ends of the open elements, the innermost first -/
def rest (R : Int → ByteArray → Bool) (s : ByteArray) : List Nat → Nat → Nat → Except (Nat × Nat) (List F)
  | [], p, _ => if p < s.size then .error (5, p) else .ok []
  | e :: es, p, cnt => match decA R s p e (es.length + 2) cnt with
    | .error x => .error x
    | .ok f => match rest R s es e (cnt + f.cnt) with
      | .error x => .error x
      | .ok fs => .ok (f :: fs)
theorem rest_cons (R : Int → ByteArray → Bool) (s : ByteArray) (e : Nat) (es : List Nat) (p cnt : Nat) : rest R s (e :: es) p cnt =
    match decA R s p e (es.length + 2) cnt with
    | .error x => .error x
    | .ok f => match rest R s es e (cnt + f.cnt) with
      | .error x => .error x
      | .ok fs => .ok (f :: fs) := rfl
/-- the walk is on its way to tgt -/
def Good (R : Int → ByteArray → Bool) (s : ByteArray) (tgt : Except (Nat × Nat) F) (ns : List Nd) (sp : List (Nat × Nat)) (os es : List Nat) (p : Nat) : Prop :=
  match tgt with
  | .error x => rest R s es p ns.length = .error x
  | .ok g => ∃ fs, rest R s es p ns.length = .ok fs ∧ fill ns os fs = g.flat 0 ∧ sp ++ sfill p es fs = g.spans 0
theorem good_end {R : Int → ByteArray → Bool} {s : ByteArray} {tgt : Except (Nat × Nat) F} {ns : List Nd} {sp : List (Nat × Nat)} {p : Nat} (h : Good R s tgt ns sp [] [] p) :
    (p < s.size → tgt = .error (5, p)) ∧ (¬ p < s.size → ∃ g, tgt = .ok g ∧ ns = g.flat 0 ∧ sp = g.spans 0) := by
  unfold Good at h
  cases tgt with
  | error x =>
    simp only [rest] at h
    constructor
    · intro hp; rw [if_pos hp] at h; rw [Except.error.inj h]
    · intro hp; rw [if_neg hp] at h; cases h
  | ok g =>
    obtain ⟨fs, h1, h2, h3⟩ := h
    simp only [rest] at h1
    constructor
    · intro hp; rw [if_pos hp] at h1; cases h1
    · intro hp
      rw [if_neg hp] at h1
      cases h1
      exact ⟨g, rfl, h2, by rw [← h3]; exact (List.append_nil _).symm⟩
def nilK : Except (Nat × Nat) (List F) → Except (Nat × Nat) (List F)
  | .error x => .error x
  | .ok fs => .ok (.nil :: fs)
theorem rest_nil (R : Int → ByteArray → Bool) (s : ByteArray) (e : Nat) (es : List Nat) (cnt : Nat) : rest R s (e :: es) e cnt = nilK (rest R s es e cnt) := by
  rw [rest_cons, decA_nil R s e e _ _ (Nat.le_refl _)]
  show (match rest R s es e (cnt + 0) with | Except.error x => Except.error x | Except.ok fs => Except.ok (F.nil :: fs)) = _
  rw [Nat.add_zero]
  cases rest R s es e cnt <;> rfl
theorem good_leave {R : Int → ByteArray → Bool} {s : ByteArray} {tgt : Except (Nat × Nat) F} {ns : List Nd} {sp : List (Nat × Nat)} {o e : Nat} {os es : List Nat} (h : Good R s tgt ns sp (o :: os) (e :: es) e) : Good R s tgt ns sp os es e := by
  unfold Good at h ⊢
  cases tgt with
  | error x =>
    dsimp only at h ⊢
    rw [rest_nil] at h
    cases hq : rest R s es e ns.length with
    | error y => rw [hq] at h; exact h
    | ok fs => rw [hq] at h; cases h
  | ok g =>
    obtain ⟨fs, h1, h2, h3⟩ := h
    rw [rest_nil] at h1
    cases hq : rest R s es e ns.length with
    | error y => rw [hq] at h1; cases h1
    | ok fs' =>
      rw [hq] at h1
      cases h1
      refine ⟨fs', rfl, ?_, h3⟩
      rw [← h2]
      show _ = fill (addK ns o [] ++ []) os fs'
      rw [addK_nil, List.append_nil]
/-- what an element turns -/
def consK (hd : Head.Hd) : Except (Nat × Nat) (List F) → Except (Nat × Nat) (List F)
  | .error x => .error x
  | .ok (ks :: nx :: fs) => .ok (.cons hd.c hd.t ks nx :: fs)
  | .ok _ => .ok []
def primK (hd : Head.Hd) (d : ByteArray) : Except (Nat × Nat) (List F) → Except (Nat × Nat) (List F)
  | .error x => .error x
  | .ok (nx :: fs) => .ok (.prim hd.c hd.t d nx :: fs)
  | .ok _ => .ok []
theorem rest_err (R : Int → ByteArray → Bool) (s : ByteArray) (p e : Nat) (es : List Nat) (cnt : Nat) (h : p < e) (c : Nat) (hl : look R s p e (es.length + 2) cnt = .error c) : rest R s (e :: es) p cnt = .error (c, p) := by
  rw [rest_cons, decA_step R s p e _ cnt h, hl]
theorem rest_ok (R : Int → ByteArray → Bool) (s : ByteArray) (p e : Nat) (es : List Nat) (cnt : Nat) (h : p < e) (hd : Head.Hd) (k : Nat) (hl : look R s p e (es.length + 2) cnt = .ok (hd, k)) :
    rest R s (e :: es) p cnt = if hd.b then consK hd (rest R s ((p + k + hd.n) :: e :: es) (p + k) (cnt + 1)) else primK hd (s.extract (p + k) (p + k + hd.n)) (rest R s (e :: es) (p + k + hd.n) (cnt + 1)) := by
  rw [rest_cons R s e es p cnt, decA_step R s p e _ cnt h, hl]
  dsimp only
  by_cases hb : hd.b = true
  · rw [if_pos hb, if_pos hb, rest_cons R s (p + k + hd.n) (e :: es) (p + k) (cnt + 1), show (e :: es).length + 2 = es.length + 2 + 1 by rw [List.length_cons]]
    cases decA R s (p + k) (p + k + hd.n) (es.length + 2 + 1) (cnt + 1) with
    | error x => rfl
    | ok ks =>
      dsimp only
      rw [rest_cons R s e es (p + k + hd.n) (cnt + 1 + ks.cnt)]
      cases decA R s (p + k + hd.n) e (es.length + 2) (cnt + 1 + ks.cnt) with
      | error x => rfl
      | ok nx =>
        dsimp only
        rw [show cnt + (F.cons hd.c hd.t ks nx).cnt = cnt + 1 + ks.cnt + nx.cnt by show cnt + (1 + ks.cnt + nx.cnt) = _; omega]
        cases rest R s es e (cnt + 1 + ks.cnt + nx.cnt) <;> rfl
  · rw [if_neg hb, if_neg hb, rest_cons R s e es (p + k + hd.n) (cnt + 1)]
    cases decA R s (p + k + hd.n) e (es.length + 2) (cnt + 1) with
    | error x => rfl
    | ok nx =>
      dsimp only
      rw [show cnt + (F.prim hd.c hd.t (s.extract (p + k) (p + k + hd.n)) nx).cnt = cnt + 1 + nx.cnt by show cnt + (1 + nx.cnt) = _; omega]
      cases rest R s es e (cnt + 1 + nx.cnt) <;> rfl
theorem good_err {R : Int → ByteArray → Bool} {s : ByteArray} {tgt : Except (Nat × Nat) F} {ns : List Nd} {sp : List (Nat × Nat)} {o p e : Nat} {os es : List Nat} (h : Good R s tgt ns sp (o :: os) (e :: es) p) (hp : p < e) (c : Nat) (hl : look R s p e (es.length + 2) ns.length = .error c) : tgt = .error (c, p) := by
  have hr := rest_err R s p e es ns.length hp c hl
  unfold Good at h
  cases tgt with
  | error x => dsimp only at h; rw [hr] at h; rw [Except.error.inj h]
  | ok g => obtain ⟨fs, h1, _⟩ := h; rw [hr] at h1; cases h1
theorem rest_len (R : Int → ByteArray → Bool) (s : ByteArray) : ∀ (es : List Nat) (p cnt : Nat) (fs : List F), rest R s es p cnt = .ok fs → fs.length = es.length
  | [], p, cnt, fs, h => by
    unfold rest at h
    split at h
    · cases h
    · cases h; rfl
  | e :: es, p, cnt, fs, h => by
    rw [rest_cons] at h
    cases hd : decA R s p e (es.length + 2) cnt with
    | error x => rw [hd] at h; cases h
    | ok f =>
      rw [hd] at h
      dsimp only at h
      cases hq : rest R s es e (cnt + f.cnt) with
      | error x => rw [hq] at h; cases h
      | ok gs => rw [hq] at h; cases h; rw [List.length_cons, List.length_cons, rest_len R s es e _ gs hq]
theorem rest_one (R : Int → ByteArray → Bool) (s : ByteArray) (e : Nat) (es : List Nat) (p cnt : Nat) (fs : List F) (h : rest R s (e :: es) p cnt = .ok fs) : ∃ f gs, fs = f :: gs ∧ decA R s p e (es.length + 2) cnt = .ok f ∧ rest R s es e (cnt + f.cnt) = .ok gs := by
  rw [rest_cons] at h
  cases hd : decA R s p e (es.length + 2) cnt with
  | error x => rw [hd] at h; cases h
  | ok f =>
    rw [hd] at h
    dsimp only at h
    cases hq : rest R s es e (cnt + f.cnt) with
    | error x => rw [hq] at h; cases h
    | ok gs => rw [hq] at h; cases h; exact ⟨f, gs, rfl, rfl, hq⟩
theorem good_prim {R : Int → ByteArray → Bool} {s : ByteArray} {tgt : Except (Nat × Nat) F} {ns : List Nd} {sp : List (Nat × Nat)} {o p e : Nat} {os es : List Nat} (h : Good R s tgt ns sp (o :: os) (e :: es) p) (hp : p < e) (he : e ≤ s.size) (ho : o < ns.length)
    (hd : Head.Hd) (k : Nat) (hl : look R s p e (es.length + 2) ns.length = .ok (hd, k)) (hb : hd.b = false) :
    Good R s tgt (addK ns o [(ns.length : Int)] ++ [⟨hd.c, hd.t, false, s.extract (p + k) (p + k + hd.n), []⟩]) (sp ++ [(p, p + k + hd.n)]) (o :: os) (e :: es) (p + k + hd.n) := by
  have hr := rest_ok R s p e es ns.length hp hd k hl
  rw [if_neg (by rw [hb]; decide)] at hr
  have hlen : (addK ns o [(ns.length : Int)] ++ [(⟨hd.c, hd.t, false, s.extract (p + k) (p + k + hd.n), []⟩ : Nd)]).length = ns.length + 1 := by rw [List.length_append, addK_len]; rfl
  have lk := look_ok hl
  have l1 := lk.fit
  have hds : (s.extract (p + k) (p + k + hd.n)).size = hd.n := by rw [ByteArray.size_extract]; omega
  have hkl : (Head.encL hd.c hd.t false (s.extract (p + k) (p + k + hd.n)).size).length = k := by rw [hds, show false = hd.b from hb.symm]; exact lk.len
  unfold Good at h ⊢
  rw [hlen]
  cases tgt with
  | error x =>
    dsimp only at h ⊢
    rw [hr] at h
    cases hq : rest R s (e :: es) (p + k + hd.n) (ns.length + 1) with
    | error y => rw [hq] at h; exact h
    | ok fs =>
      obtain ⟨f, gs, rfl, _⟩ := rest_one R s e es _ _ fs hq
      rw [hq] at h; cases h
  | ok g =>
    obtain ⟨fs, h1, h2, h3⟩ := h
    rw [hr] at h1
    cases hq : rest R s (e :: es) (p + k + hd.n) (ns.length + 1) with
    | error y => rw [hq] at h1; cases h1
    | ok fs' =>
      obtain ⟨f, gs, rfl, _⟩ := rest_one R s e es _ _ fs' hq
      rw [hq] at h1
      cases h1
      refine ⟨_, rfl, ?_, ?_⟩
      · rw [← h2]
        show fill (addK (addK ns o [(ns.length : Int)] ++ [_]) o (f.tops _) ++ f.flat _) os gs = fill (addK ns o ((ns.length : Int) :: f.tops (ns.length + 1)) ++ (_ :: f.flat (ns.length + 1))) os gs
        rw [hlen, addK_app _ _ o (by rw [addK_len]; exact ho), addK_add, List.append_assoc]
        rfl
      · rw [← h3]
        show (sp ++ [(p, p + k + hd.n)]) ++ (f.spans (p + k + hd.n) ++ sfill e es gs) = sp ++ (((p, p + ((Head.encL hd.c hd.t false (s.extract (p + k) (p + k + hd.n)).size).length + (s.extract (p + k) (p + k + hd.n)).size)) :: f.spans (p + ((Head.encL hd.c hd.t false (s.extract (p + k) (p + k + hd.n)).size).length + (s.extract (p + k) (p + k + hd.n)).size))) ++ sfill e es gs)
        rw [hkl, hds, ← Nat.add_assoc, List.append_assoc]
        rfl
theorem good_cons {R : Int → ByteArray → Bool} {s : ByteArray} {tgt : Except (Nat × Nat) F} {ns : List Nd} {sp : List (Nat × Nat)} {o p e : Nat} {os es : List Nat} (h : Good R s tgt ns sp (o :: os) (e :: es) p) (hp : p < e) (he : e ≤ s.size) (ho : o < ns.length)
    (hd : Head.Hd) (k : Nat) (hl : look R s p e (es.length + 2) ns.length = .ok (hd, k)) (hb : hd.b = true) :
    Good R s tgt (addK ns o [(ns.length : Int)] ++ [⟨hd.c, hd.t, true, ⟨#[]⟩, []⟩]) (sp ++ [(p, p + k + hd.n)]) (ns.length :: o :: os) ((p + k + hd.n) :: e :: es) (p + k) := by
  have hr := rest_ok R s p e es ns.length hp hd k hl
  rw [if_pos hb] at hr
  have hlen : (addK ns o [(ns.length : Int)] ++ [(⟨hd.c, hd.t, true, ⟨#[]⟩, []⟩ : Nd)]).length = ns.length + 1 := by rw [List.length_append, addK_len]; rfl
  have lk := look_ok hl
  have l1 := lk.fit
  unfold Good at h ⊢
  rw [hlen]
  cases tgt with
  | error x =>
    dsimp only at h ⊢
    rw [hr] at h
    cases hq : rest R s ((p + k + hd.n) :: e :: es) (p + k) (ns.length + 1) with
    | error y => rw [hq] at h; exact h
    | ok fs =>
      obtain ⟨f, gs, rfl, _, h5⟩ := rest_one R s _ _ _ _ fs hq
      obtain ⟨f2, gs2, rfl, _⟩ := rest_one R s e es _ _ gs h5
      rw [hq] at h; cases h
  | ok g =>
    obtain ⟨fs, h1, h2, h3⟩ := h
    rw [hr] at h1
    cases hq : rest R s ((p + k + hd.n) :: e :: es) (p + k) (ns.length + 1) with
    | error y => rw [hq] at h1; cases h1
    | ok fs' =>
      obtain ⟨f, gs, rfl, h4, h5⟩ := rest_one R s _ _ _ _ fs' hq
      obtain ⟨f2, gs2, rfl, _⟩ := rest_one R s e es _ _ gs h5
      rw [hq] at h1
      cases h1
      have hfl : f.enc.length = hd.n := by rw [decA_enc (by omega) (by omega) h4]; omega
      have hkl : (Head.encL hd.c hd.t true f.enc.length).length = k := by rw [hfl, show true = hd.b from hb.symm]; exact lk.len
      refine ⟨_, rfl, ?_, ?_⟩
      · rw [← h2]
        have hb1 : ∀ x : Nd, addK (addK ns o [(ns.length : Int)] ++ [x]) ns.length (f.tops (ns.length + 1)) = addK ns o [(ns.length : Int)] ++ [{ x with k := x.k ++ f.tops (ns.length + 1) }] := by
          intro x
          have h9 := addK_last (addK ns o [(ns.length : Int)]) x (f.tops (ns.length + 1))
          rw [addK_len] at h9
          exact h9
        show fill (addK (addK (addK ns o [(ns.length : Int)] ++ [(⟨hd.c, hd.t, true, ⟨#[]⟩, []⟩ : Nd)]) ns.length (f.tops _) ++ f.flat _) o (f2.tops _) ++ f2.flat _) os gs2 = fill (addK ns o ((ns.length : Int) :: f2.tops (ns.length + 1 + f.cnt)) ++ (⟨hd.c, hd.t, true, ⟨#[]⟩, f.tops (ns.length + 1)⟩ :: (f.flat (ns.length + 1) ++ f2.flat (ns.length + 1 + f.cnt)))) os gs2
        rw [hlen, hb1]
        have hlen2 : (addK ns o [(ns.length : Int)] ++ [(⟨hd.c, hd.t, true, ⟨#[]⟩, [] ++ f.tops (ns.length + 1)⟩ : Nd)] ++ f.flat (ns.length + 1)).length = ns.length + 1 + f.cnt := by
          rw [List.length_append, List.length_append, addK_len, F.flat_len]; rfl
        rw [hlen2, List.append_assoc (addK ns o _), addK_app _ _ o (by rw [addK_len]; exact ho), addK_add, List.nil_append, List.append_assoc]
        rfl
      · rw [← h3]
        show (sp ++ [(p, p + k + hd.n)]) ++ (f.spans (p + k) ++ (f2.spans (p + k + hd.n) ++ sfill e es gs2)) = sp ++ (((p, p + ((Head.encL hd.c hd.t true f.enc.length).length + f.enc.length)) :: (f.spans (p + (Head.encL hd.c hd.t true f.enc.length).length) ++ f2.spans (p + ((Head.encL hd.c hd.t true f.enc.length).length + f.enc.length)))) ++ sfill e es gs2)
        rw [hkl, hfl, ← Nat.add_assoc]
        simp
/-- the outermost element's head -/
theorem top_err {R : Int → ByteArray → Bool} {s : ByteArray} (h0 : 0 < s.size) (h1 : s.size ≤ 65535) (c : Nat) (hl : look R s 0 s.size 1 0 = .error c) : top R s = .error (c, 0) := by
  unfold top one
  rw [if_neg (by omega), if_neg (by omega), hl]
theorem top_prim {R : Int → ByteArray → Bool} {s : ByteArray} (h0 : 0 < s.size) (h1 : s.size ≤ 65535) (hd : Head.Hd) (k : Nat) (hl : look R s 0 s.size 1 0 = .ok (hd, k)) (hb : hd.b = false) :
    Good R s (top R s) [⟨hd.c, hd.t, false, s.extract (0 + k) (0 + k + hd.n), []⟩] [(0, 0 + k + hd.n)] [] [] (0 + k + hd.n) := by
  have lk := look_ok hl
  have l1 := lk.fit
  have hds : (s.extract (0 + k) (0 + k + hd.n)).size = hd.n := by rw [ByteArray.size_extract]; omega
  have hkl : (Head.encL hd.c hd.t false (s.extract (0 + k) (0 + k + hd.n)).size).length = k := by rw [hds, show false = hd.b from hb.symm]; exact lk.len
  have ht : top R s = if 0 + k + hd.n < s.size then .error (5, 0 + k + hd.n) else .ok (.prim hd.c hd.t (s.extract (0 + k) (0 + k + hd.n)) .nil) := by
    unfold top one
    rw [if_neg (by omega), if_neg (by omega), hl]
    dsimp only
    rw [if_neg (by rw [hb]; decide)]
  rw [ht]
  unfold Good
  by_cases hq : 0 + k + hd.n < s.size
  · rw [if_pos hq]
    show rest R s [] _ _ = _
    unfold rest
    rw [if_pos hq]
  · rw [if_neg hq]
    refine ⟨[], by unfold rest; rw [if_neg hq], rfl, ?_⟩
    show [(0, 0 + k + hd.n)] ++ [] = [(0, 0 + ((Head.encL hd.c hd.t false (s.extract (0 + k) (0 + k + hd.n)).size).length + (s.extract (0 + k) (0 + k + hd.n)).size))]
    rw [hkl, hds, ← Nat.add_assoc]
    rfl
theorem top_cons {R : Int → ByteArray → Bool} {s : ByteArray} (h0 : 0 < s.size) (h1 : s.size ≤ 65535) (hd : Head.Hd) (k : Nat) (hl : look R s 0 s.size 1 0 = .ok (hd, k)) (hb : hd.b = true) :
    Good R s (top R s) [⟨hd.c, hd.t, true, ⟨#[]⟩, []⟩] [(0, 0 + k + hd.n)] [0] [0 + k + hd.n] (0 + k) := by
  have lk := look_ok hl
  have l1 := lk.fit
  have ht : top R s = match decA R s (0 + k) (0 + k + hd.n) 2 1 with | .error x => .error x | .ok ks => if 0 + k + hd.n < s.size then .error (5, 0 + k + hd.n) else .ok (.cons hd.c hd.t ks .nil) := by
    unfold top one
    rw [if_neg (by omega), if_neg (by omega), hl]
    dsimp only
    rw [if_pos hb]
    cases decA R s (0 + k) (0 + k + hd.n) (1 + 1) (0 + 1) <;> rfl
  rw [ht]
  unfold Good
  have hr : ∀ p, rest R s [0 + k + hd.n] p 1 = match decA R s p (0 + k + hd.n) 2 1 with | .error x => .error x | .ok f => match rest R s [] (0 + k + hd.n) (1 + f.cnt) with | .error x => .error x | .ok fs => .ok (f :: fs) := fun p => rfl
  cases hd1 : decA R s (0 + k) (0 + k + hd.n) 2 1 with
  | error x =>
    show rest R s [0 + k + hd.n] (0 + k) 1 = .error x
    rw [hr, hd1]
  | ok ks =>
    dsimp only
    by_cases hq : 0 + k + hd.n < s.size
    · rw [if_pos hq]
      show rest R s [0 + k + hd.n] (0 + k) 1 = _
      rw [hr, hd1]
      dsimp only
      unfold rest
      rw [if_pos hq]
    · rw [if_neg hq]
      have hfl : ks.enc.length = hd.n := by rw [decA_enc (by omega) (by omega) hd1]; omega
      have hkl : (Head.encL hd.c hd.t true ks.enc.length).length = k := by rw [hfl, show true = hd.b from hb.symm]; exact lk.len
      refine ⟨[ks], ?_, ?_, ?_⟩
      · show rest R s [0 + k + hd.n] (0 + k) 1 = _
        rw [hr, hd1]
        dsimp only
        unfold rest
        rw [if_neg hq]
      · show addK [(⟨hd.c, hd.t, true, ⟨#[]⟩, []⟩ : Nd)] 0 (ks.tops 1) ++ ks.flat 1 = ⟨hd.c, hd.t, true, ⟨#[]⟩, ks.tops 1⟩ :: (ks.flat 1 ++ [])
        rw [List.append_nil]
        rfl
      · show [(0, 0 + k + hd.n)] ++ (ks.spans (0 + k) ++ []) = (0, 0 + ((Head.encL hd.c hd.t true ks.enc.length).length + ks.enc.length)) :: (ks.spans (0 + (Head.encL hd.c hd.t true ks.enc.length).length) ++ [])
        rw [hkl, hfl, ← Nat.add_assoc]
        rfl
end Tlv
end Go.Proofs.Ytihpndfjcgodiaa

/- The reference of package head: a tag that is read. -/
namespace Go.Proofs.Ytihpndfjcgodiaa
open Go.RowKit
namespace RefHead
open Head

/-- digits to the base 128, f of them at most: T so far, k bytes so far -/
def digF : Nat → Nat → Nat → List UInt8 → Option (Nat × Nat)
  | 0, _, _, _ => none
  | _ + 1, _, _, [] => none
  | f + 1, T, k, d :: r => if d.toNat < 128 then some (128 * T + d.toNat, k) else digF f (128 * T + (d.toNat - 128)) (k + 1) r
theorem digR_F (l : List UInt8) : digR l = digF 3 0 1 l := by
  match l with
  | [] => rfl
  | [a] => by_cases ha : a.toNat < 128 <;> simp [digR, digF, ha]
  | [a, b] =>
    by_cases ha : a.toNat < 128
    · simp [digR, digF, ha]
    · by_cases hb : b.toNat < 128 <;> simp [digR, digF, ha, hb]
  | a :: b :: c :: m =>
    by_cases ha : a.toNat < 128
    · simp [digR, digF, ha]
    · by_cases hb : b.toNat < 128
      · simp [digR, digF, ha, hb]
      · by_cases hc : c.toNat < 128 <;> simp [digR, digF, ha, hb, hc]
/-- a tag as the reference reads it -/
def rtagR : List UInt8 → Option (Nat × Nat × Bool × Nat)
  | [] => none
  | x :: l => if x.toNat % 32 < 31 then some (x.toNat / 64, x.toNat % 32, decide (x.toNat / 32 % 2 = 1), 1) else
    match digR l with
    | none => none
    | some (t, k) => some (x.toNat / 64, t, decide (x.toNat / 32 % 2 = 1), k + 1)
def rtagV : Option (Nat × Nat × Bool × Nat) → Value
  | none => .tuple #[hdV 0 0 false 0, .int .i64 0]
  | some (c, t, b, k) => .tuple #[hdV c t b 0, .int .i64 (k : Int)]
theorem tagR_r (l : List UInt8) : tagR l = match rtagR l with | none => none | some (c, t, b, k) => if tagL c t b = l.take k then some (c, t, b, k) else none := by
  cases l with
  | nil => rfl
  | cons x l =>
    by_cases h31 : x.toNat % 32 < 31
    · have h := tagR_b (x :: l) (x.toNat / 64) (x.toNat % 32) (decide (x.toNat / 32 % 2 = 1)) 1 (by simp only [tagR, h31, if_true])
      simp only [tagR, rtagR, h31, if_true]
      rw [if_pos h.2.2.2.2.2]
    · simp only [tagR, rtagR, h31, if_false]
      cases digR l with
      | none => rfl
      | some p => rfl

theorem cells4.drew {w : World} {B : Nat} {a b c d : Value} (h : cells4 w B a b c d) : cells4 w.drew B a b c d := h
theorem cells4.set1 {w : World} {B : Nat} {a b c d : Value} (h : cells4 w B a b c d) (x : Value) : cells4 (w.setCell ⟨B, 1, none⟩ x) B a x c d := by
  obtain ⟨⟨h0, h1, h2, h3⟩, f0, f1, f2, f3⟩ := h
  refine ⟨⟨?_, ?_, ?_, ?_⟩, ?_, ?_, ?_, ?_⟩
  · rw [World.cell?_setCell_other _ _ _ _ (by simp)]; exact h0
  · exact World.cell?_setCell_same _ _ _ h1
  · rw [World.cell?_setCell_other _ _ _ _ (by simp)]; exact h2
  · rw [World.cell?_setCell_other _ _ _ _ (by simp)]; exact h3
  · simpa [go_sem] using f0
  · simpa [go_sem] using f1
  · simpa [go_sem] using f2
  · simpa [go_sem] using f3
theorem cells4.other {w : World} {B B' : Nat} {a b c d : Value} (h : cells4 w B a b c d) (hB : B' ≠ B) (j : Nat) (x : Value) : cells4 (w.setCell ⟨B', j, none⟩ x) B a b c d := by
  obtain ⟨⟨h0, h1, h2, h3⟩, f0, f1, f2, f3⟩ := h
  refine ⟨⟨?_, ?_, ?_, ?_⟩, ?_, ?_, ?_, ?_⟩
  · rw [World.cell?_setCell_other _ _ _ _ (by simp)]; exact h0
  · rw [World.cell?_setCell_other _ _ _ _ (by simp)]; exact h1
  · rw [World.cell?_setCell_other _ _ _ _ (by simp)]; exact h2
  · rw [World.cell?_setCell_other _ _ _ _ (by simp)]; exact h3
  · simpa [go_sem] using f0
  · simpa [go_sem] using f1
  · simpa [go_sem] using f2
  · simpa [go_sem] using f3

set_option maxRecDepth 100000 in
set_option maxHeartbeats 4000000 in
theorem rt_0 : Mak 63 #[.string ⟨#[]⟩] (rtagV none) := by
  intro w
  go_enter Try.func63, Try.ntmps63
  go_wp2_with fail
  exact bodyPost_ret (v := rtagV none) (by simp [results, Try.results63, go_sem]; try rfl) rfl ⟨rfl, by first | exact ((Since.refl w).alloc _) | exact ((Since.refl w).alloc _).alloc _⟩

set_option maxRecDepth 100000 in
set_option maxHeartbeats 4000000 in
theorem rt_short (s : ByteArray) (hp : 0 < s.size) (_hm : s.size ≤ 1000000) (c t : Nat) (b : Bool) (hc : (s[0].toNat : Int) / 64 = (c : Int)) (ht : (s[0].toNat : Int) % 32 = (t : Int)) (h31 : t < 31) (hb : ((s[0].toNat : Int) / 32 % 2 == 1) = b) : Mak 63 #[.string s] (rtagV (some (c, t, b, 1))) := by
  intro w
  have hne := some_bytes_f s hp
  have hl0 := s[0].toNat_lt
  go_enter Try.func63, Try.ntmps63
  go_wp2_with fail
  exact bodyPost_ret (v := rtagV (some (c, t, b, 1))) (by simp [results, Try.results63, go_sem]; try rfl) rfl ⟨rfl, by first | exact ((Since.refl w).alloc _) | exact ((Since.refl w).alloc _).alloc _⟩

set_option maxRecDepth 100000 in
set_option maxHeartbeats 4000000 in
theorem rt_long (s : ByteArray) (hp : 0 < s.size) (hm : s.size ≤ 1000000) (c : Nat) (b : Bool) (hc : (s[0].toNat : Int) / 64 = (c : Int)) (ht : (s[0].toNat : Int) % 32 = 31) (hb : ((s[0].toNat : Int) / 32 % 2 == 1) = b) (V : Value) (hV : V = rtagV (match digR (s.data.toList.drop 1) with | none => none | some (t, k) => some (c, t, b, k + 1))) : Mak 63 #[.string s] V := by
  intro w
  have hne := some_bytes_f s hp
  have hl0 := s[0].toNat_lt
  have HV := Lib.hid hV
  clear hV
  go_enter Try.func63, Try.ntmps63
  go_wp2_with fail
  go_loopw [6] (fun i wr => ∃ k T : Nat, i = .int .i64 (k : Int) ∧ (k = 1 ∧ T ≤ 0 ∨ k = 2 ∧ T ≤ 127 ∨ k = 3 ∧ T ≤ 16383 ∨ k = 4 ∧ T ≤ 2097151) ∧ Hid (digR (s.data.toList.drop 1) = digF (4 - k) T k (s.data.toList.drop k)) ∧ Hid (cells4 wr w.heap.size (.int .i64 0) (.int .i64 0) (.bool false) (.int .i64 0)) ∧ Hid (cells4 wr (w.heap.size + 1) (.int .i64 (c : Int)) (.int .i64 (T : Int)) (.bool b) (.int .i64 0)) ∧ Hid (Since w wr)) (fun i _ => 4 - (intOf i).toNat)
  case atStart =>
    refine ⟨1, 0, rfl, Or.inl ⟨rfl, Nat.le_refl _⟩, Lib.hid (digR_F _), Lib.hid ?_, Lib.hid ?_, Lib.hid (((Since.refl w).alloc _).alloc _)⟩
    · exact (cells4_new w _ _ _ _ _).below _ (Below.alloc (Below.refl _ _) (Nat.le_refl _) _) (by simp)
    · have h := cells4_new (w.alloc (.cells #[.int .i64 0, .int .i64 0, .bool false, .int .i64 0] 76)) (.int .i64 (c : Int)) (.int .i64 0) (.bool b) (.int .i64 0) 76
      simpa using h
  case round =>
    obtain ⟨k, T, rfl, hk, HD, HR, HC, HS⟩ := hrel
    obtain ⟨⟨r0, r1, r2, r3⟩, f0, f1, f2, f3⟩ := HR.out
    obtain ⟨⟨q0, q1, q2, q3⟩, g0, g1, g2, g3⟩ := HC.out
    have hne1 : w.heap.size + 1 ≠ w.heap.size := by omega
    by_cases hlt : k < s.size
    · by_cases h4 : k = 4
      · have hV2 : V = rtagV none := by
          have h := HD.out
          rw [h4] at h
          rw [HV.out, h]; rfl
        have h4i : ((k : Nat) : Int) = 4 := by omega
        have h4n : ¬ (k : Int) < 4 := by omega
        subst hV2
        clear hk h4
        go_wp2_with fail
        obtain ⟨s0, s1, s2, s3⟩ := set4 r0 r1 r2 r3 (.int .i64 0) (.int .i64 0) (.bool false) (.int .i64 0)
        exact bodyPost_ret (v := rtagV none) (by simp [results, Try.results63, go_sem, s0, s1, s2, s3]; try rfl) rfl ⟨rfl, Since4 HS.out (Nat.le_refl _)⟩
      · have hd := drop_cons s k hlt
        have hx := s[k].toNat_lt
        have hk4 : k < 4 := by omega
        have hk4i : (k : Int) < 4 := by omega
        have hki : (k : Int) < (s.size : Int) := by omega
        have hD := HD.out
        rw [hd, show 4 - k = (3 - k) + 1 from by omega] at hD
        simp only [digF] at hD
        by_cases h128 : s[k].toNat < 128
        · rw [if_pos h128] at hD
          have hV2 : V = rtagV (some (c, 128 * T + s[k].toNat, b, k + 1)) := by rw [HV.out, hD]
          obtain ⟨N, hN⟩ : ∃ N, N = 128 * T + s[k].toNat := ⟨_, rfl⟩
          have hNi : 128 * (T : Int) + (s[k].toNat : Int) % 128 = (N : Int) := by omega
          rw [← hN] at hV2
          have hTb : T ≤ 16383 := by omega
          subst hV2
          clear hD hN hd
          go_wp2_with fail
          go_region
          go_wp2_with fail
          have r0 := (World.cell?_setCell_other wr ⟨w.heap.size + 1, 1, none⟩ ⟨w.heap.size, 0, none⟩ (.int .i64 (N : Int)) (by simp)).trans r0
          have r1 := (World.cell?_setCell_other wr ⟨w.heap.size + 1, 1, none⟩ ⟨w.heap.size, 1, none⟩ (.int .i64 (N : Int)) (by simp)).trans r1
          have r2 := (World.cell?_setCell_other wr ⟨w.heap.size + 1, 1, none⟩ ⟨w.heap.size, 2, none⟩ (.int .i64 (N : Int)) (by simp)).trans r2
          have r3 := (World.cell?_setCell_other wr ⟨w.heap.size + 1, 1, none⟩ ⟨w.heap.size, 3, none⟩ (.int .i64 (N : Int)) (by simp)).trans r3
          have H2 : Since w (wr.setCell ⟨w.heap.size + 1, 1, none⟩ (.int .i64 (N : Int))) := Below.setCell (p := ⟨w.heap.size + 1, 1, none⟩) HS.out (Nat.le_succ _) _
          obtain ⟨s0, s1, s2, s3⟩ := set4 r0 r1 r2 r3 (.int .i64 (c : Int)) (.int .i64 (N : Int)) (.bool b) (.int .i64 0)
          exact bodyPost_ret (v := rtagV (some (c, N, b, k + 1))) (by simp [results, Try.results63, go_sem, s0, s1, s2, s3]; try rfl) rfl ⟨rfl, (Since4 H2 (Nat.le_refl _)).drew⟩
        · rw [if_neg h128] at hD
          obtain ⟨N, hN⟩ : ∃ N, N = 128 * T + (s[k].toNat - 128) := ⟨_, rfl⟩
          have hNi : 128 * (T : Int) + (s[k].toNat : Int) % 128 = (N : Int) := by omega
          rw [← hN] at hD
          have hTb : T ≤ 16383 := by omega
          have hge : 128 ≤ s[k].toNat := by omega
          have hkn : k + 1 = 1 ∧ N ≤ 0 ∨ k + 1 = 2 ∧ N ≤ 127 ∨ k + 1 = 3 ∧ N ≤ 16383 ∨ k + 1 = 4 ∧ N ≤ 2097151 := by omega
          rw [show 3 - k = 4 - (k + 1) from by omega] at hD
          have HD2 := Lib.hid hD
          clear hD hN hd
          go_wp2_with fail
          go_region
          go_wp2_with fail
          go_roundw
          case rel => exact ⟨k + 1, N, by go_num, hkn, HD2, Lib.hid (cells4.drew (cells4.other HR.out hne1 1 _)), Lib.hid (cells4.drew (cells4.set1 HC.out _)), Lib.hid (Since.drew (Below.setCell (p := ⟨w.heap.size + 1, 1, none⟩) HS.out (Nat.le_succ _) _))⟩
          case measure => simp [intOf]; omega
    · have hV2 : V = rtagV none := by
        have h := HD.out
        rw [show s.data.toList.drop k = [] from List.drop_eq_nil_of_le (by show s.size ≤ k; omega)] at h
        rw [HV.out, h]
        rcases hk with ⟨rfl, _⟩ | ⟨rfl, _⟩ | ⟨rfl, _⟩ | ⟨rfl, _⟩ <;> rfl
      subst hV2
      have hki : ¬ (k : Int) < (s.size : Int) := by omega
      go_wp2_with fail
      obtain ⟨s0, s1, s2, s3⟩ := set4 r0 r1 r2 r3 (.int .i64 0) (.int .i64 0) (.bool false) (.int .i64 0)
      exact bodyPost_ret (v := rtagV none) (by simp [results, Try.results63, go_sem, s0, s1, s2, s3]; try rfl) rfl ⟨rfl, Since4 HS.out (Nat.le_refl _)⟩

theorem rt_mak (s : ByteArray) (hm : s.size ≤ 1000000) (V : Value) (hV : V = rtagV (rtagR s.data.toList)) : Mak 63 #[.string s] V := by
  by_cases h0 : s.size = 0
  · obtain rfl : s = ⟨#[]⟩ := ba_ext (List.eq_nil_of_length_eq_zero h0)
    rw [hV]
    exact rt_0
  · have hp : 0 < s.size := by omega
    have hl := s[0].toNat_lt
    have e0 : s.data.toList = s[0] :: s.data.toList.drop 1 := drop_cons s 0 hp
    have hb : ((s[0].toNat : Int) / 32 % 2 == 1) = decide (s[0].toNat / 32 % 2 = 1) := by
      by_cases h : s[0].toNat / 32 % 2 = 1
      · rw [decide_eq_true h, beq_iff_eq]; omega
      · rw [decide_eq_false h, beq_eq_false_iff_ne]; omega
    by_cases h : s[0].toNat % 32 < 31
    · have hV2 : V = rtagV (some (s[0].toNat / 64, s[0].toNat % 32, decide (s[0].toNat / 32 % 2 = 1), 1)) := by
        rw [hV, e0]
        simp only [rtagR, h, if_true]
      rw [hV2]
      exact rt_short s hp hm _ _ _ (by omega) (by omega) h hb
    · refine rt_long s hp hm (s[0].toNat / 64) _ (by omega) (by omega) hb V ?_
      rw [hV, e0]
      simp only [rtagR, h, if_false]
      rfl
end RefHead
end Go.Proofs.Ytihpndfjcgodiaa
