import Derived.Test.YtpanhhjkecebkaaGreatPt11
set_option maxRecDepth 100000
namespace Go.Proofs.YtpanhhjkecebkaaGreat
open Go.RowKit
namespace Head
theorem ofNat_toNat (n:Nat) (h:n < 256):(UInt8.ofNat n).toNat = n:=by rw [UInt8.toNat_ofNat']; exact Nat.mod_eq_of_lt h
theorem first_lt (c t:Nat) (b:Bool) (hc:c <= 3) (ht:t < 32):first c t b < 256:=by unfold first; cases b <;> simp <;> omega
theorem first_t (c t:Nat) (b:Bool) (_hc:c <= 3) (ht:t < 32):first c t b % 32 = t:=by unfold first; cases b <;> simp <;> omega
theorem first_c (c t:Nat) (b:Bool) (_hc:c <= 3) (ht:t < 32):first c t b / 64 = c:=by unfold first; cases b <;> simp <;> omega
theorem first_b (c t:Nat) (b:Bool) (_hc:c <= 3) (ht:t < 32):decide (first c t b / 32 % 2 = 1) = b:=by unfold first; cases b <;> simp <;> omega
def digL (t:Nat):List UInt8:=seg t 2 ++ seg t 1 ++ [UInt8.ofNat (t % 128)]
theorem digL_1 (t:Nat) (h:t < 128):digL t = [UInt8.ofNat t]:=by
 unfold digL seg;rw [if_neg (by omega),if_neg (by omega),Nat.mod_eq_of_lt h]; rfl
theorem digL_2 (t:Nat) (h:128 <= t) (h2:t < 16384):digL t = [UInt8.ofNat (128 + t / 128),UInt8.ofNat (t % 128)]:=by
 unfold digL seg;rw [if_neg (by omega),if_pos (by omega),show t / 2 ^ (7 * 1) % 128 = t / 128 from by omega]; rfl
theorem digL_3 (t:Nat) (h:16384 <= t) (h2:t <= 2097151):digL t = [UInt8.ofNat (128 + t / 16384),UInt8.ofNat (128 + t / 128 % 128),UInt8.ofNat (t % 128)]:=by
 unfold digL seg;rw [if_pos (by omega),if_pos (by omega),show t / 2 ^ (7 * 2) % 128 = t / 16384 from by omega,show t / 2 ^ (7 * 1) % 128 = t / 128 % 128 from by omega]; rfl
theorem digR_L (t:Nat) (ht:t <= 2097151) (r:List UInt8):digR (digL t ++ r) = some (t,(digL t).length):=by
 by_cases h1:t < 128
 · rw [digL_1 t h1];have e:=ofNat_toNat t (by omega)
   show digR (_ :: _) = _
   rw [digR_1 _ _ (by omega),e]; rfl
 · by_cases h2:t < 16384
   · rw [digL_2 t (by omega) h2];have e1:=ofNat_toNat (128 + t / 128) (by omega);have e2:=ofNat_toNat (t % 128) (by omega)
     show digR (_ :: _ :: _) = _
     rw [digR_2 _ _ _ (by omega) (by omega),e1,e2]
     congr 2
     omega
   · rw [digL_3 t (by omega) ht];have e1:=ofNat_toNat (128 + t / 16384) (by omega);have e2:=ofNat_toNat (128 + t / 128 % 128) (by omega);have e3:=ofNat_toNat (t % 128) (by omega)
     show digR (_ :: _ :: _ :: _) = _
     rw [digR_3 _ _ _ _ (by omega) (by omega) (by omega),e1,e2,e3]
     congr 2
     omega
theorem tagL_long (c t:Nat) (b:Bool) (h:¬ t < 31):tagL c t b = UInt8.ofNat (first c 31 b) :: digL t:=by unfold tagL; rw [if_neg h]; rfl
theorem tagR_L (c t:Nat) (b:Bool) (hc:c <= 3) (ht:t <= 2097151) (r:List UInt8):tagR (tagL c t b ++ r) = some (c,t,b,(tagL c t b).length):=by
 by_cases h:t < 31
 · have e:=ofNat_toNat _ (first_lt c t b hc (by omega));have e2:tagL c t b = [UInt8.ofNat (first c t b)]:=by unfold tagL; rw [if_pos h]
   rw [e2]
   show tagR (_ :: r) = _
   simp only [tagR,e,first_t c t b hc (by omega),first_c c t b hc (by omega),first_b c t b hc (by omega),h,if_true];rfl
 · have e:=ofNat_toNat _ (first_lt c 31 b hc (by omega));have e2:=tagL_long c t b h;have e3:=digR_L t ht r;rw [e2]
   show tagR (_ :: (digL t ++ r)) = _
   simp only [tagR,e,first_t c 31 b hc (by omega),first_c c 31 b hc (by omega),first_b c 31 b hc (by omega),e3];rw [if_neg (by omega),if_pos (by rw [e2]; simp)];rfl
theorem lenR_L (n:Nat) (hn:n <= 65535) (r:List UInt8):lenR (lenL n ++ r) = (n,(lenL n).length,0):=by
 by_cases h1:n < 128
 · have e:lenL n = [UInt8.ofNat n]:=by unfold lenL; rw [if_pos h1]
   have e1:=ofNat_toNat n (by omega);rw [e]
   show lenR (_ :: r) = _
   simp only [lenR,e1];rw [if_neg (by omega),if_pos h1]; rfl
 · by_cases h2:n < 256
   · have e:lenL n = [129,UInt8.ofNat n]:=by unfold lenL; rw [if_neg h1,if_pos h2]
     have e1:=ofNat_toNat n (by omega);rw [e]
     show lenR (129 :: UInt8.ofNat n :: r) = _
     have h129:(129:UInt8).toNat = 129:=rfl;simp only [lenR,h129,e1];simp;omega
   · have e:lenL n = [130,UInt8.ofNat (n / 256),UInt8.ofNat (n % 256)]:=by unfold lenL; rw [if_neg h1,if_neg h2]
     have e1:=ofNat_toNat (n / 256) (by omega);have e2:=ofNat_toNat (n % 256) (by omega);rw [e]
     show lenR (130 :: UInt8.ofNat (n / 256) :: UInt8.ofNat (n % 256) :: r) = _
     have h130:(130:UInt8).toNat = 130:=rfl;have e3:256 * (n / 256) + n % 256 = n:=by omega
     simp only [lenR,h130,e1,e2,e3];simp;omega
theorem encL_len (c t:Nat) (b:Bool) (n:Nat):(encL c t b n).length <= 7 /\ 0 < (encL c t b n).length:=by
 unfold encL tagL lenL seg;simp only [List.length_append]
 constructor
 · split <;> (try split) <;> (try split) <;> (try split) <;> (try split) <;> simp
 · split <;> (try split) <;> (try split) <;> (try split) <;> (try split) <;> simp
theorem dec_enc (c t n:Nat) (b:Bool) (hc:c <= 3) (ht:t <= 2097151) (hn:n <= 65535) (r:List UInt8):dec (encL c t b n ++ r) = (⟨c,t,b,n⟩,(encL c t b n).length,0):=by
 unfold dec encL;rw [List.append_assoc,tagR_L c t b hc ht];simp only [List.drop_left,lenR_L n hn r,if_true,List.length_append]
theorem enc_dec (l:List UInt8) (h:Hd) (k:Nat) (hd:dec l = (h,k,0)):h.c <= 3 /\ h.t <= 2097151 /\ h.n <= 65535 /\ k <= l.length /\ encL h.c h.t h.b h.n = l.take k:=by
 unfold dec at hd;cases ht:tagR l with
 | none => rw [ht] at hd; simp at hd
 | some q =>
   obtain ⟨c,t,b,j⟩:=q;rw [ht] at hd;obtain ⟨h1,h2,h3,h4,h5,h6⟩:=tagR_b _ _ _ _ _ ht;obtain ⟨n,z,e,hr⟩:∃ n z e,lenR (l.drop j) = (n,z,e):=⟨_,_,_,rfl⟩
   simp only [hr] at hd
   by_cases he:e = 0
   · subst he;obtain ⟨g1,g2,g3,g4,g5⟩:=lenR_b _ _ _ hr;rw [if_pos rfl] at hd;cases hd;rw [List.length_drop] at g4;refine ⟨h1,h2,g1,by omega, ?_⟩
     show tagL c t b ++ lenL n = _
     rw [h6,g5,List.take_add]
   · rw [if_neg he] at hd;cases hd;exact absurd rfl he
end Head
end Go.Proofs.YtpanhhjkecebkaaGreat
namespace Go.Proofs.YtpanhhjkecebkaaGreat
namespace Tlv
structure Nd where
 c:Int
 t:Int
 b:Bool
 d:ByteArray
 k:List Int
inductive F where
 | nil:F
 | prim (c t:Nat) (d:ByteArray) (nx:F):F
 | cons (c t:Nat) (ks nx:F):F
namespace F
def cnt:F -> Nat
 | nil => 0
 | prim _ _ _ nx => 1 + nx.cnt
 | cons _ _ ks nx => 1 + ks.cnt + nx.cnt
def app:F -> F -> F
 | nil,g => g
 | prim c t d nx,g => prim c t d (nx.app g)
 | cons c t ks nx,g => cons c t ks (nx.app g)
def tops:F -> Nat -> List Int
 | nil,_ => []
 | prim _ _ _ nx,i => (i:Int) :: nx.tops (i + 1)
 | cons _ _ ks nx,i => (i:Int) :: nx.tops (i + 1 + ks.cnt)
def flat:F -> Nat -> List Nd
 | nil,_ => []
 | prim c t d nx,i => ⟨c,t,false,d,[]⟩ :: nx.flat (i + 1)
 | cons c t ks nx,i => ⟨c,t,true,⟨#[]⟩,ks.tops (i + 1)⟩ :: (ks.flat (i + 1) ++ nx.flat (i + 1 + ks.cnt))
def enc:F -> List UInt8
 | nil => []
 | prim c t d nx => Head.encL c t false d.size ++ d.data.toList ++ nx.enc
 | cons c t ks nx => Head.encL c t true ks.enc.length ++ ks.enc ++ nx.enc
def spans:F -> Nat -> List (Nat × Nat)
 | nil,_ => []
 | prim c t d nx,p => (p,p + ((Head.encL c t false d.size).length + d.size)) :: nx.spans (p + ((Head.encL c t false d.size).length + d.size))
 | cons c t ks nx,p => (p,p + ((Head.encL c t true ks.enc.length).length + ks.enc.length)) :: (ks.spans (p + (Head.encL c t true ks.enc.length).length) ++ nx.spans (p + ((Head.encL c t true ks.enc.length).length + ks.enc.length)))
def deep:F -> Nat
 | nil => 0
 | prim _ _ _ nx => max 1 nx.deep
 | cons _ _ ks nx => max (ks.deep + 1) nx.deep
theorem app_nil (f:F):f.app nil = f:=by
 induction f with
 | nil => rfl
 | prim c t d nx ih => show prim c t d (nx.app nil) = _; rw [ih]
 | cons c t ks nx _ ih => show cons c t ks (nx.app nil) = _; rw [ih]
theorem app_assoc (f g h:F):(f.app g).app h = f.app (g.app h):=by
 induction f with
 | nil => rfl
 | prim c t d nx ih => show prim c t d _ = prim c t d _; rw [ih]
 | cons c t ks nx _ ih => show cons c t ks _ = cons c t ks _; rw [ih]
theorem cnt_app (f g:F):(f.app g).cnt = f.cnt + g.cnt:=by
 induction f with
 | nil => exact (Nat.zero_add _).symm
 | prim c t d nx ih => show 1 + (nx.app g).cnt = 1 + nx.cnt + g.cnt; omega
 | cons c t ks nx _ ih => show 1 + ks.cnt + (nx.app g).cnt = 1 + ks.cnt + nx.cnt + g.cnt; omega
theorem tops_app (f g:F) (i:Nat):(f.app g).tops i = f.tops i ++ g.tops (i + f.cnt):=by
 induction f generalizing i with
 | nil => rfl
 | prim c t d nx ih => show (i:Int) :: (nx.app g).tops (i + 1) = (i:Int) :: (nx.tops (i + 1) ++ g.tops (i + (1 + nx.cnt))); rw [ih,Nat.add_assoc]
 | cons c t ks nx _ ih => show (i:Int) :: (nx.app g).tops (i + 1 + ks.cnt) = (i:Int) :: (nx.tops (i + 1 + ks.cnt) ++ g.tops (i + (1 + ks.cnt + nx.cnt))); rw [ih]; simp only [Nat.add_assoc]
theorem flat_app (f g:F) (i:Nat):(f.app g).flat i = f.flat i ++ g.flat (i + f.cnt):=by
 induction f generalizing i with
 | nil => rfl
 | prim c t d nx ih => show _ :: (nx.app g).flat (i + 1) = _ :: (nx.flat (i + 1) ++ g.flat (i + (1 + nx.cnt))); rw [ih,Nat.add_assoc]
 | cons c t ks nx _ ih =>
   show _ :: (ks.flat (i + 1) ++ (nx.app g).flat (i + 1 + ks.cnt)) = _ :: ((ks.flat (i + 1) ++ nx.flat (i + 1 + ks.cnt)) ++ g.flat (i + (1 + ks.cnt + nx.cnt)))
   rw [ih,List.append_assoc]; simp only [Nat.add_assoc]
theorem flat_len (f:F) (i:Nat):(f.flat i).length = f.cnt:=by
 induction f generalizing i with
 | nil => rfl
 | prim c t d nx ih => show (nx.flat (i + 1)).length + 1 = 1 + nx.cnt; rw [ih]; omega
 | cons c t ks nx ih1 ih2 => show (ks.flat (i + 1) ++ nx.flat (i + 1 + ks.cnt)).length + 1 = 1 + ks.cnt + nx.cnt; rw [List.length_append,ih1,ih2]; omega
theorem enc_app (f g:F):(f.app g).enc = f.enc ++ g.enc:=by
 induction f with
 | nil => rfl
 | prim c t d nx ih => show _ ++ _ ++ (nx.app g).enc = _ ++ _ ++ nx.enc ++ g.enc; rw [ih,<- List.append_assoc]
 | cons c t ks nx _ ih => show _ ++ _ ++ (nx.app g).enc = _ ++ _ ++ nx.enc ++ g.enc; rw [ih,<- List.append_assoc]
theorem spans_len (f:F) (p:Nat):(f.spans p).length = f.cnt:=by
 induction f generalizing p with
 | nil => rfl
 | prim c t d nx ih => show (nx.spans _).length + 1 = 1 + nx.cnt; rw [ih]; omega
 | cons c t ks nx ih1 ih2 => show (ks.spans _ ++ nx.spans _).length + 1 = 1 + ks.cnt + nx.cnt; rw [List.length_append,ih1,ih2]; omega
theorem enc_pos (f:F) (h:f ≠ nil):2 <= f.enc.length:=by
 have key:∀ c t b n,2 <= (Head.encL c t b n).length:=by
   intro c t b n;unfold Head.encL Head.tagL Head.lenL Head.seg;simp only [List.length_append]
   split <;> (try split) <;> (try split) <;> (try split) <;> (try split) <;> simp
 cases f with
 | nil => exact absurd rfl h
 | prim c t d nx => have:=key c t false d.size; unfold enc; simp only [List.length_append]; omega
 | cons c t ks nx => have:=key c t true ks.enc.length; unfold enc; simp only [List.length_append]; omega
end F
def formB (R:Int -> ByteArray -> Bool) (h:Head.Hd) (d:ByteArray):Bool:=decide (h.c ≠ 0) || (if h.b then decide (h.t = 16) || decide (h.t = 17) else R (h.t:Int) d)
def look (R:Int -> ByteArray -> Bool) (s:ByteArray) (p e deep cnt:Nat):Except Nat (Head.Hd × Nat) :=
 match Head.dec (s.extract p e).data.toList with
 | (h,k,x) => if x ≠ 0 then .error x else if e - p < k + h.n then .error 5 else if 16 < deep then .error 6 else if 1000 <= cnt then .error 4
   else if formB R h (s.extract (p + k) (p + k + h.n)) then .ok (h,k) else .error 5
def dec (R:Int -> ByteArray -> Bool) (s:ByteArray):Nat -> Nat -> Nat -> Nat -> Nat -> Except (Nat × Nat) F
 | 0,p,_,_,_ => .error (5,p)
 | f + 1,p,e,deep,cnt => if e <= p then .ok .nil else
   match look R s p e deep cnt with
   | .error c => .error (c,p)
   | .ok (h,k) => if h.b then
       match dec R s f (p + k) (p + k + h.n) (deep + 1) (cnt + 1) with
       | .error x => .error x
       | .ok ks => match dec R s f (p + k + h.n) e deep (cnt + 1 + ks.cnt) with
         | .error x => .error x
         | .ok nx => .ok (.cons h.c h.t ks nx)
     else match dec R s f (p + k + h.n) e deep (cnt + 1) with
       | .error x => .error x
       | .ok nx => .ok (.prim h.c h.t (s.extract (p + k) (p + k + h.n)) nx)
structure LookOk (R:Int -> ByteArray -> Bool) (s:ByteArray) (p e deep cnt:Nat) (h:Head.Hd) (k:Nat):Prop where
 fit:k + h.n <= e - p
 pos:2 <= k
 k7:k <= 7
 c3:h.c <= 3
 tm:h.t <= 2097151
 nm:h.n <= 65535
 deep:deep <= 16
 cnt:cnt < 1000
 form:formB R h (s.extract (p + k) (p + k + h.n)) = true
 enc:Head.encL h.c h.t h.b h.n = (s.extract p e).data.toList.take k
 len:(Head.encL h.c h.t h.b h.n).length = k
 hd:Head.dec (s.extract p e).data.toList = (h,k,0)
theorem encL_two (c t:Nat) (b:Bool) (n:Nat):2 <= (Head.encL c t b n).length:=by
 unfold Head.encL Head.tagL Head.lenL Head.seg;simp only [List.length_append]
 split <;> (try split) <;> (try split) <;> (try split) <;> (try split) <;> simp
theorem look_ok {R:Int -> ByteArray -> Bool} {s:ByteArray} {p e deep cnt:Nat} {h:Head.Hd} {k:Nat} (hl:look R s p e deep cnt = .ok (h,k)):LookOk R s p e deep cnt h k:=by
 unfold look at hl;obtain ⟨h',k',x,hd⟩:∃ h' k' x,Head.dec (s.extract p e).data.toList = (h',k',x):=⟨_,_,_,rfl⟩
 rw [hd] at hl;simp only at hl
 split at hl
 · cases hl
 · split at hl
   · cases hl
   · split at hl
     · cases hl
     · split at hl
       · cases hl
       · split at hl
         · cases hl
           rename_i h1 h2 h3 h4 h5
           have hx:x = 0:=by omega
           subst hx;obtain ⟨g1,g2,g3,g4,g5⟩:=Head.enc_dec _ _ _ hd;have gl:(Head.encL h.c h.t h.b h.n).length = k:=by rw [g5,List.length_take]; omega
           have:=encL_two h.c h.t h.b h.n;have:=(Head.encL_len h.c h.t h.b h.n).1;exact ⟨by omega,by omega,by omega,g1,g2,g3,by omega,by omega,h5,g5,gl,hd⟩
         · cases hl
theorem dec_fuel (R:Int -> ByteArray -> Bool) (s:ByteArray):∀ (f g p e deep cnt:Nat),e - p < f -> e - p < g -> dec R s f p e deep cnt = dec R s g p e deep cnt:=by
 intro f
 induction f with
 | zero => intro g p e deep cnt h; omega
 | succ f ih =>
   intro g p e deep cnt h1 h2;obtain ⟨g,rfl⟩:∃ g',g = g' + 1:=⟨g - 1,by omega⟩
   unfold dec
   split
   · rfl
   · rename_i hp
     cases hl:look R s p e deep cnt with
     | error c => rfl
     | ok x =>
       obtain ⟨h,k⟩:=x;have hk:=look_ok hl;have k1:=hk.fit;have k2:=hk.pos;simp only
       split
       · rw [ih g (p + k) (p + k + h.n) (deep + 1) (cnt + 1) (by omega) (by omega)];cases dec R s g (p + k) (p + k + h.n) (deep + 1) (cnt + 1) with
         | error x => rfl
         | ok ks =>
           simp only;rw [ih g (p + k + h.n) e deep (cnt + 1 + ks.cnt) (by omega) (by omega)]
       · rw [ih g (p + k + h.n) e deep (cnt + 1) (by omega) (by omega)]
def decA (R:Int -> ByteArray -> Bool) (s:ByteArray) (p e deep cnt:Nat):Except (Nat × Nat) F:=dec R s (e - p + 1) p e deep cnt
theorem decA_nil (R:Int -> ByteArray -> Bool) (s:ByteArray) (p e deep cnt:Nat) (h:e <= p):decA R s p e deep cnt = .ok .nil:=by
 unfold decA dec;rw [if_pos h]
theorem decA_step (R:Int -> ByteArray -> Bool) (s:ByteArray) (p e deep cnt:Nat) (h:p < e):decA R s p e deep cnt =
   match look R s p e deep cnt with
   | .error c => .error (c,p)
   | .ok (h,k) => if h.b then
       match decA R s (p + k) (p + k + h.n) (deep + 1) (cnt + 1) with
       | .error x => .error x
       | .ok ks => match decA R s (p + k + h.n) e deep (cnt + 1 + ks.cnt) with
         | .error x => .error x
         | .ok nx => .ok (.cons h.c h.t ks nx)
     else match decA R s (p + k + h.n) e deep (cnt + 1) with
       | .error x => .error x
       | .ok nx => .ok (.prim h.c h.t (s.extract (p + k) (p + k + h.n)) nx):=by
 have hf:e - p + 1 = (e - p) + 1:=rfl;unfold decA;rw [hf]
 conv => lhs; unfold dec
 rw [if_neg (by omega)];cases hl:look R s p e deep cnt with
 | error c => rfl
 | ok x =>
   obtain ⟨h',k⟩:=x;have hk:=look_ok hl;have k1:=hk.fit;have k2:=hk.pos;simp only
   split
   · rw [dec_fuel R s (e - p) (p + k + h'.n - (p + k) + 1) (p + k) (p + k + h'.n) (deep + 1) (cnt + 1) (by omega) (by omega)];cases dec R s (p + k + h'.n - (p + k) + 1) (p + k) (p + k + h'.n) (deep + 1) (cnt + 1) with
     | error x => rfl
     | ok ks =>
       simp only;rw [dec_fuel R s (e - p) (e - (p + k + h'.n) + 1) (p + k + h'.n) e deep (cnt + 1 + ks.cnt) (by omega) (by omega)]
   · rw [dec_fuel R s (e - p) (e - (p + k + h'.n) + 1) (p + k + h'.n) e deep (cnt + 1) (by omega) (by omega)]
def one (R:Int -> ByteArray -> Bool) (s:ByteArray) (p e deep cnt:Nat):Except (Nat × Nat) (F × Nat) :=
 match look R s p e deep cnt with
 | .error c => .error (c,p)
 | .ok (h,k) => if h.b then
     match decA R s (p + k) (p + k + h.n) (deep + 1) (cnt + 1) with
     | .error x => .error x
     | .ok ks => .ok (.cons h.c h.t ks .nil,p + k + h.n)
   else .ok (.prim h.c h.t (s.extract (p + k) (p + k + h.n)) .nil,p + k + h.n)
theorem decA_one (R:Int -> ByteArray -> Bool) (s:ByteArray) (p e deep cnt:Nat) (h:p < e):decA R s p e deep cnt =
   match one R s p e deep cnt with
   | .error x => .error x
   | .ok (g,q) => match decA R s q e deep (cnt + g.cnt) with
     | .error x => .error x
     | .ok nx => .ok (g.app nx):=by
 rw [decA_step R s p e deep cnt h];unfold one;cases look R s p e deep cnt with
 | error c => rfl
 | ok x =>
   obtain ⟨h',k⟩:=x;simp only
   split
   · cases decA R s (p + k) (p + k + h'.n) (deep + 1) (cnt + 1) with
     | error x => rfl
     | ok ks =>
       simp only;rw [show cnt + (F.cons h'.c h'.t ks .nil).cnt = cnt + 1 + ks.cnt by show cnt + (1 + ks.cnt + 0) = _; omega];rfl
   · rfl
def top (R:Int -> ByteArray -> Bool) (s:ByteArray):Except (Nat × Nat) F :=
 if s.size = 0 then .error (3,0) else if 65535 < s.size then .error (4,0) else
 match one R s 0 s.size 1 0 with
 | .error x => .error x
 | .ok (g,q) => if q < s.size then .error (5,q) else .ok g
end Tlv
end Go.Proofs.YtpanhhjkecebkaaGreat
namespace Go.Proofs.YtpanhhjkecebkaaGreat
namespace Tlv
theorem ext_app (s:ByteArray) (a b c:Nat) (h1:a <= b) (h2:b <= c):(s.extract a c).data.toList = (s.extract a b).data.toList ++ (s.extract b c).data.toList:=by
 simp only [ByteArray.data_extract,Array.toList_extract,List.extract_eq_take_drop];rw [show c - a = (b - a) + (c - b) by omega,List.take_add,List.drop_drop,show a + (b - a) = b by omega]
theorem ext_take (s:ByteArray) (a k c:Nat) (h:a + k <= c):(s.extract a c).data.toList.take k = (s.extract a (a + k)).data.toList:=by
 simp only [ByteArray.data_extract,Array.toList_extract,List.extract_eq_take_drop];rw [List.take_take,show min k (c - a) = a + k - a by omega]
theorem ext_len (s:ByteArray) (a b:Nat) (h:b <= s.size):(s.extract a b).data.toList.length = b - a:=by
 show (s.extract a b).size = _
 rw [ByteArray.size_extract]; omega
theorem dec_enc (R:Int -> ByteArray -> Bool) (s:ByteArray):∀ (f p e deep cnt:Nat) (x:F),p <= e -> e <= s.size -> dec R s f p e deep cnt = .ok x -> x.enc = (s.extract p e).data.toList:=by
 intro f
 induction f with
 | zero => intro p e deep cnt x _ _ h; cases h
 | succ f ih =>
   intro p e deep cnt x hp he h;unfold dec at h
   split at h
   · rename_i hpe
     cases h;have:e = p:=by omega
     subst this;have h9:=ext_len s e e he;rw [Nat.sub_self] at h9;exact (List.length_eq_zero_iff.1 h9).symm
   · cases hl:look R s p e deep cnt with
     | error c => rw [hl] at h; cases h
     | ok y =>
       obtain ⟨hh,k⟩:=y;rw [hl] at h;have lk:=look_ok hl;have l1:=lk.fit;have l2:=lk.pos;have hE:=lk.enc;rw [ext_take s p k e (by omega)] at hE;dsimp only at h
       split at h
       · rename_i hb
         cases h1:dec R s f (p + k) (p + k + hh.n) (deep + 1) (cnt + 1) with
         | error z => rw [h1] at h; cases h
         | ok ks =>
           rw [h1] at h;dsimp only at h;cases h2:dec R s f (p + k + hh.n) e deep (cnt + 1 + ks.cnt) with
           | error z => rw [h2] at h; cases h
           | ok nx =>
             rw [h2] at h;cases h;have e1:=ih _ _ _ _ _ (by omega) (by omega) h1;have e2:=ih _ _ _ _ _ (by omega) he h2;have hn:ks.enc.length = hh.n:=by rw [e1,ext_len s _ _ (by omega)]; omega
             show Head.encL hh.c hh.t true ks.enc.length ++ ks.enc ++ nx.enc = _
             rw [hn,show true = hh.b from hb.symm,hE,e1,e2,<- ext_app s p (p + k) (p + k + hh.n) (by omega) (by omega),<- ext_app s p (p + k + hh.n) e (by omega) (by omega)]
       · rename_i hb
         cases h2:dec R s f (p + k + hh.n) e deep (cnt + 1) with
         | error z => rw [h2] at h; cases h
         | ok nx =>
           rw [h2] at h;cases h;have e2:=ih _ _ _ _ _ (by omega) he h2;have hn:(s.extract (p + k) (p + k + hh.n)).size = hh.n:=by rw [ByteArray.size_extract]; omega
           show Head.encL hh.c hh.t false (s.extract (p + k) (p + k + hh.n)).size ++ (s.extract (p + k) (p + k + hh.n)).data.toList ++ nx.enc = _
           rw [hn,show false = hh.b by cases hbb:hh.b with | true => exact absurd hbb hb | false => rfl,hE,e2,<- ext_app s p (p + k) (p + k + hh.n) (by omega) (by omega),<- ext_app s p (p + k + hh.n) e (by omega) (by omega)]
theorem decA_enc {R:Int -> ByteArray -> Bool} {s:ByteArray} {p e deep cnt:Nat} {x:F} (hp:p <= e) (he:e <= s.size) (h:decA R s p e deep cnt = .ok x):x.enc.length = e - p:=by
 rw [dec_enc R s _ p e deep cnt x hp he h,ext_len s p e he]
def addK (ns:List Nd) (o:Nat) (ks:List Int):List Nd:=ns.modify o (fun x => { x with k:=x.k ++ ks })
theorem addK_len (ns:List Nd) (o:Nat) (ks:List Int):(addK ns o ks).length = ns.length:=by unfold addK; simp
theorem addK_get (ns:List Nd) (o:Nat) (ks:List Int) (i:Nat):(addK ns o ks)[i]? = (ns[i]?).map (fun a => if o = i then { a with k:=a.k ++ ks } else a):=by
 unfold addK;rw [List.getElem?_modify];cases ns[i]? <;> rfl
theorem addK_nil (ns:List Nd) (o:Nat):addK ns o [] = ns:=by
 apply List.ext_getElem?
 intro i;rw [addK_get];cases ns[i]? with
 | none => rfl
 | some x =>
   rw [Option.map_some]
   congr 1
   split
   · rw [List.append_nil]
   · rfl
theorem addK_add (ns:List Nd) (o:Nat) (a b:List Int):addK (addK ns o a) o b = addK ns o (a ++ b):=by
 apply List.ext_getElem?
 intro i;rw [addK_get,addK_get,addK_get];cases ns[i]? with
 | none => rfl
 | some x =>
   simp only [Option.map_some]
   congr 1
   by_cases h:o = i
   · rw [if_pos h,if_pos h,if_pos h,List.append_assoc]
   · rw [if_neg h,if_neg h,if_neg h]
theorem addK_app (ns ms:List Nd) (o:Nat) (h:o < ns.length) (ks:List Int):addK (ns ++ ms) o ks = addK ns o ks ++ ms:=by
 apply List.ext_getElem?
 intro i;rw [addK_get]
 by_cases hi:i < ns.length
 · rw [List.getElem?_append_left hi,List.getElem?_append_left (by rw [addK_len]; exact hi),addK_get]
 · rw [List.getElem?_append_right (by omega),List.getElem?_append_right (by rw [addK_len]; omega),addK_len];cases ms[i - ns.length]? with
   | none => rfl
   | some x => rw [Option.map_some,if_neg (by omega)]
theorem addK_last (ns:List Nd) (x:Nd) (ks:List Int):addK (ns ++ [x]) ns.length ks = ns ++ [{ x with k:=x.k ++ ks }]:=by
 apply List.ext_getElem?
 intro i;rw [addK_get]
 by_cases hi:i < ns.length
 · rw [List.getElem?_append_left hi,List.getElem?_append_left hi];cases ns[i]? with
   | none => rfl
   | some y => rw [Option.map_some,if_neg (by omega)]
 · rw [List.getElem?_append_right (by omega),List.getElem?_append_right (by omega)]
   by_cases h2:i = ns.length
   · subst h2;rw [Nat.sub_self]
     show some (if ns.length = ns.length then _ else _) = _
     rw [if_pos rfl]; rfl
   · rw [List.getElem?_eq_none (by simp; omega),List.getElem?_eq_none (by simp; omega)]; rfl
def fill:List Nd -> List Nat -> List F -> List Nd
 | ns,o :: os,f :: fs => fill (addK ns o (f.tops ns.length) ++ f.flat ns.length) os fs
 | ns,_,_ => ns
def sfill:Nat -> List Nat -> List F -> List (Nat × Nat)
 | p,e :: es,f :: fs => f.spans p ++ sfill e es fs
 | _,_,_ => []
def rest (R:Int -> ByteArray -> Bool) (s:ByteArray):List Nat -> Nat -> Nat -> Except (Nat × Nat) (List F)
 | [],p,_ => if p < s.size then .error (5,p) else .ok []
 | e :: es,p,cnt => match decA R s p e (es.length + 2) cnt with
   | .error x => .error x
   | .ok f => match rest R s es e (cnt + f.cnt) with
     | .error x => .error x
     | .ok fs => .ok (f :: fs)
theorem rest_cons (R:Int -> ByteArray -> Bool) (s:ByteArray) (e:Nat) (es:List Nat) (p cnt:Nat):rest R s (e :: es) p cnt =
   match decA R s p e (es.length + 2) cnt with
   | .error x => .error x
   | .ok f => match rest R s es e (cnt + f.cnt) with
     | .error x => .error x
     | .ok fs => .ok (f :: fs):=rfl
def Good (R:Int -> ByteArray -> Bool) (s:ByteArray) (tgt:Except (Nat × Nat) F) (ns:List Nd) (sp:List (Nat × Nat)) (os es:List Nat) (p:Nat):Prop :=
 match tgt with
 | .error x => rest R s es p ns.length = .error x
 | .ok g => ∃ fs,rest R s es p ns.length = .ok fs /\ fill ns os fs = g.flat 0 /\ sp ++ sfill p es fs = g.spans 0
theorem good_end {R:Int -> ByteArray -> Bool} {s:ByteArray} {tgt:Except (Nat × Nat) F} {ns:List Nd} {sp:List (Nat × Nat)} {p:Nat} (h:Good R s tgt ns sp [] [] p) :
   (p < s.size -> tgt = .error (5,p)) /\ (¬ p < s.size -> ∃ g,tgt = .ok g /\ ns = g.flat 0 /\ sp = g.spans 0):=by
 unfold Good at h;cases tgt with
 | error x =>
   simp only [rest] at h
   constructor
   · intro hp; rw [if_pos hp] at h; rw [Except.error.inj h]
   · intro hp; rw [if_neg hp] at h; cases h
 | ok g =>
   obtain ⟨fs,h1,h2,h3⟩:=h;simp only [rest] at h1
   constructor
   · intro hp; rw [if_pos hp] at h1; cases h1
   · intro hp;rw [if_neg hp] at h1;cases h1;exact ⟨g,rfl,h2,by rw [<- h3]; exact (List.append_nil _).symm⟩
def nilK:Except (Nat × Nat) (List F) -> Except (Nat × Nat) (List F)
 | .error x => .error x
 | .ok fs => .ok (.nil :: fs)
theorem rest_nil (R:Int -> ByteArray -> Bool) (s:ByteArray) (e:Nat) (es:List Nat) (cnt:Nat):rest R s (e :: es) e cnt = nilK (rest R s es e cnt):=by
 rw [rest_cons,decA_nil R s e e _ _ (Nat.le_refl _)]
 show (match rest R s es e (cnt + 0) with | Except.error x => Except.error x | Except.ok fs => Except.ok (F.nil :: fs)) = _
 rw [Nat.add_zero];cases rest R s es e cnt <;> rfl
theorem good_leave {R:Int -> ByteArray -> Bool} {s:ByteArray} {tgt:Except (Nat × Nat) F} {ns:List Nd} {sp:List (Nat × Nat)} {o e:Nat} {os es:List Nat} (h:Good R s tgt ns sp (o :: os) (e :: es) e):Good R s tgt ns sp os es e:=by
 unfold Good at h ⊢;cases tgt with
 | error x =>
   dsimp only at h ⊢;rw [rest_nil] at h;cases hq:rest R s es e ns.length with
   | error y => rw [hq] at h; exact h
   | ok fs => rw [hq] at h; cases h
 | ok g =>
   obtain ⟨fs,h1,h2,h3⟩:=h;rw [rest_nil] at h1;cases hq:rest R s es e ns.length with
   | error y => rw [hq] at h1; cases h1
   | ok fs' =>
     rw [hq] at h1;cases h1;refine ⟨fs',rfl, ?_,h3⟩;rw [<- h2]
     show _ = fill (addK ns o [] ++ []) os fs'
     rw [addK_nil,List.append_nil]
def consK (hd:Head.Hd):Except (Nat × Nat) (List F) -> Except (Nat × Nat) (List F)
 | .error x => .error x
 | .ok (ks :: nx :: fs) => .ok (.cons hd.c hd.t ks nx :: fs)
 | .ok _ => .ok []
def primK (hd:Head.Hd) (d:ByteArray):Except (Nat × Nat) (List F) -> Except (Nat × Nat) (List F)
 | .error x => .error x
 | .ok (nx :: fs) => .ok (.prim hd.c hd.t d nx :: fs)
 | .ok _ => .ok []
theorem rest_err (R:Int -> ByteArray -> Bool) (s:ByteArray) (p e:Nat) (es:List Nat) (cnt:Nat) (h:p < e) (c:Nat) (hl:look R s p e (es.length + 2) cnt = .error c):rest R s (e :: es) p cnt = .error (c,p):=by
 rw [rest_cons,decA_step R s p e _ cnt h,hl]
theorem rest_ok (R:Int -> ByteArray -> Bool) (s:ByteArray) (p e:Nat) (es:List Nat) (cnt:Nat) (h:p < e) (hd:Head.Hd) (k:Nat) (hl:look R s p e (es.length + 2) cnt = .ok (hd,k)) :
   rest R s (e :: es) p cnt = if hd.b then consK hd (rest R s ((p + k + hd.n) :: e :: es) (p + k) (cnt + 1)) else primK hd (s.extract (p + k) (p + k + hd.n)) (rest R s (e :: es) (p + k + hd.n) (cnt + 1)):=by
 rw [rest_cons R s e es p cnt,decA_step R s p e _ cnt h,hl];dsimp only
 by_cases hb:hd.b = true
 · rw [if_pos hb,if_pos hb,rest_cons R s (p + k + hd.n) (e :: es) (p + k) (cnt + 1),show (e :: es).length + 2 = es.length + 2 + 1 by rw [List.length_cons]];cases decA R s (p + k) (p + k + hd.n) (es.length + 2 + 1) (cnt + 1) with
   | error x => rfl
   | ok ks =>
     dsimp only;rw [rest_cons R s e es (p + k + hd.n) (cnt + 1 + ks.cnt)];cases decA R s (p + k + hd.n) e (es.length + 2) (cnt + 1 + ks.cnt) with
     | error x => rfl
     | ok nx =>
       dsimp only;rw [show cnt + (F.cons hd.c hd.t ks nx).cnt = cnt + 1 + ks.cnt + nx.cnt by show cnt + (1 + ks.cnt + nx.cnt) = _; omega];cases rest R s es e (cnt + 1 + ks.cnt + nx.cnt) <;> rfl
 · rw [if_neg hb,if_neg hb,rest_cons R s e es (p + k + hd.n) (cnt + 1)];cases decA R s (p + k + hd.n) e (es.length + 2) (cnt + 1) with
   | error x => rfl
   | ok nx =>
     dsimp only;rw [show cnt + (F.prim hd.c hd.t (s.extract (p + k) (p + k + hd.n)) nx).cnt = cnt + 1 + nx.cnt by show cnt + (1 + nx.cnt) = _; omega];cases rest R s es e (cnt + 1 + nx.cnt) <;> rfl
theorem good_err {R:Int -> ByteArray -> Bool} {s:ByteArray} {tgt:Except (Nat × Nat) F} {ns:List Nd} {sp:List (Nat × Nat)} {o p e:Nat} {os es:List Nat} (h:Good R s tgt ns sp (o :: os) (e :: es) p) (hp:p < e) (c:Nat) (hl:look R s p e (es.length + 2) ns.length = .error c):tgt = .error (c,p):=by
 have hr:=rest_err R s p e es ns.length hp c hl;unfold Good at h;cases tgt with
 | error x => dsimp only at h; rw [hr] at h; rw [Except.error.inj h]
 | ok g => obtain ⟨fs,h1,_⟩:=h; rw [hr] at h1; cases h1
theorem rest_one (R:Int -> ByteArray -> Bool) (s:ByteArray) (e:Nat) (es:List Nat) (p cnt:Nat) (fs:List F) (h:rest R s (e :: es) p cnt = .ok fs):∃ f gs,fs = f :: gs /\ decA R s p e (es.length + 2) cnt = .ok f /\ rest R s es e (cnt + f.cnt) = .ok gs:=by
 rw [rest_cons] at h;cases hd:decA R s p e (es.length + 2) cnt with
 | error x => rw [hd] at h; cases h
 | ok f =>
   rw [hd] at h;dsimp only at h;cases hq:rest R s es e (cnt + f.cnt) with
   | error x => rw [hq] at h; cases h
   | ok gs => rw [hq] at h; cases h; exact ⟨f,gs,rfl,rfl,hq⟩
theorem good_prim {R:Int -> ByteArray -> Bool} {s:ByteArray} {tgt:Except (Nat × Nat) F} {ns:List Nd} {sp:List (Nat × Nat)} {o p e:Nat} {os es:List Nat} (h:Good R s tgt ns sp (o :: os) (e :: es) p) (hp:p < e) (he:e <= s.size) (ho:o < ns.length)
   (hd:Head.Hd) (k:Nat) (hl:look R s p e (es.length + 2) ns.length = .ok (hd,k)) (hb:hd.b = false) :
   Good R s tgt (addK ns o [(ns.length:Int)] ++ [⟨hd.c,hd.t,false,s.extract (p + k) (p + k + hd.n),[]⟩]) (sp ++ [(p,p + k + hd.n)]) (o :: os) (e :: es) (p + k + hd.n):=by
 have hr:=rest_ok R s p e es ns.length hp hd k hl;rw [if_neg (by rw [hb]; decide)] at hr;have hlen:(addK ns o [(ns.length:Int)] ++ [(⟨hd.c,hd.t,false,s.extract (p + k) (p + k + hd.n),[]⟩:Nd)]).length = ns.length + 1:=by rw [List.length_append,addK_len]; rfl
 have lk:=look_ok hl;have l1:=lk.fit;have hds:(s.extract (p + k) (p + k + hd.n)).size = hd.n:=by rw [ByteArray.size_extract]; omega
 have hkl:(Head.encL hd.c hd.t false (s.extract (p + k) (p + k + hd.n)).size).length = k:=by rw [hds,show false = hd.b from hb.symm]; exact lk.len
 unfold Good at h ⊢;rw [hlen];cases tgt with
 | error x =>
   dsimp only at h ⊢;rw [hr] at h;cases hq:rest R s (e :: es) (p + k + hd.n) (ns.length + 1) with
   | error y => rw [hq] at h; exact h
   | ok fs =>
     obtain ⟨f,gs,rfl,_⟩:=rest_one R s e es _ _ fs hq;rw [hq] at h; cases h
 | ok g =>
   obtain ⟨fs,h1,h2,h3⟩:=h;rw [hr] at h1;cases hq:rest R s (e :: es) (p + k + hd.n) (ns.length + 1) with
   | error y => rw [hq] at h1; cases h1
   | ok fs' =>
     obtain ⟨f,gs,rfl,_⟩:=rest_one R s e es _ _ fs' hq;rw [hq] at h1;cases h1;refine ⟨_,rfl, ?_, ?_⟩
     · rw [<- h2]
       show fill (addK (addK ns o [(ns.length:Int)] ++ [_]) o (f.tops _) ++ f.flat _) os gs = fill (addK ns o ((ns.length:Int) :: f.tops (ns.length + 1)) ++ (_ :: f.flat (ns.length + 1))) os gs
       rw [hlen,addK_app _ _ o (by rw [addK_len]; exact ho),addK_add,List.append_assoc];rfl
     · rw [<- h3]
       show (sp ++ [(p,p + k + hd.n)]) ++ (f.spans (p + k + hd.n) ++ sfill e es gs) = sp ++ (((p,p + ((Head.encL hd.c hd.t false (s.extract (p + k) (p + k + hd.n)).size).length + (s.extract (p + k) (p + k + hd.n)).size)) :: f.spans (p + ((Head.encL hd.c hd.t false (s.extract (p + k) (p + k + hd.n)).size).length + (s.extract (p + k) (p + k + hd.n)).size))) ++ sfill e es gs)
       rw [hkl,hds,<- Nat.add_assoc,List.append_assoc];rfl
theorem good_cons {R:Int -> ByteArray -> Bool} {s:ByteArray} {tgt:Except (Nat × Nat) F} {ns:List Nd} {sp:List (Nat × Nat)} {o p e:Nat} {os es:List Nat} (h:Good R s tgt ns sp (o :: os) (e :: es) p) (hp:p < e) (he:e <= s.size) (ho:o < ns.length)
   (hd:Head.Hd) (k:Nat) (hl:look R s p e (es.length + 2) ns.length = .ok (hd,k)) (hb:hd.b = true) :
   Good R s tgt (addK ns o [(ns.length:Int)] ++ [⟨hd.c,hd.t,true,⟨#[]⟩,[]⟩]) (sp ++ [(p,p + k + hd.n)]) (ns.length :: o :: os) ((p + k + hd.n) :: e :: es) (p + k):=by
 have hr:=rest_ok R s p e es ns.length hp hd k hl;rw [if_pos hb] at hr;have hlen:(addK ns o [(ns.length:Int)] ++ [(⟨hd.c,hd.t,true,⟨#[]⟩,[]⟩:Nd)]).length = ns.length + 1:=by rw [List.length_append,addK_len]; rfl
 have lk:=look_ok hl;have l1:=lk.fit;unfold Good at h ⊢;rw [hlen];cases tgt with
 | error x =>
   dsimp only at h ⊢;rw [hr] at h;cases hq:rest R s ((p + k + hd.n) :: e :: es) (p + k) (ns.length + 1) with
   | error y => rw [hq] at h; exact h
   | ok fs =>
     obtain ⟨f,gs,rfl,_,h5⟩:=rest_one R s _ _ _ _ fs hq;obtain ⟨f2,gs2,rfl,_⟩:=rest_one R s e es _ _ gs h5;rw [hq] at h; cases h
 | ok g =>
   obtain ⟨fs,h1,h2,h3⟩:=h;rw [hr] at h1;cases hq:rest R s ((p + k + hd.n) :: e :: es) (p + k) (ns.length + 1) with
   | error y => rw [hq] at h1; cases h1
   | ok fs' =>
     obtain ⟨f,gs,rfl,h4,h5⟩:=rest_one R s _ _ _ _ fs' hq;obtain ⟨f2,gs2,rfl,_⟩:=rest_one R s e es _ _ gs h5;rw [hq] at h1;cases h1;have hfl:f.enc.length = hd.n:=by rw [decA_enc (by omega) (by omega) h4]; omega
     have hkl:(Head.encL hd.c hd.t true f.enc.length).length = k:=by rw [hfl,show true = hd.b from hb.symm]; exact lk.len
     refine ⟨_,rfl, ?_, ?_⟩
     · rw [<- h2];have hb1:∀ x:Nd,addK (addK ns o [(ns.length:Int)] ++ [x]) ns.length (f.tops (ns.length + 1)) = addK ns o [(ns.length:Int)] ++ [{ x with k:=x.k ++ f.tops (ns.length + 1) }]:=by
         intro x;have h9:=addK_last (addK ns o [(ns.length:Int)]) x (f.tops (ns.length + 1));rw [addK_len] at h9;exact h9
       show fill (addK (addK (addK ns o [(ns.length:Int)] ++ [(⟨hd.c,hd.t,true,⟨#[]⟩,[]⟩:Nd)]) ns.length (f.tops _) ++ f.flat _) o (f2.tops _) ++ f2.flat _) os gs2 = fill (addK ns o ((ns.length:Int) :: f2.tops (ns.length + 1 + f.cnt)) ++ (⟨hd.c,hd.t,true,⟨#[]⟩,f.tops (ns.length + 1)⟩ :: (f.flat (ns.length + 1) ++ f2.flat (ns.length + 1 + f.cnt)))) os gs2
       rw [hlen,hb1];have hlen2:(addK ns o [(ns.length:Int)] ++ [(⟨hd.c,hd.t,true,⟨#[]⟩,[] ++ f.tops (ns.length + 1)⟩:Nd)] ++ f.flat (ns.length + 1)).length = ns.length + 1 + f.cnt:=by
         rw [List.length_append,List.length_append,addK_len,F.flat_len]; rfl
       rw [hlen2,List.append_assoc (addK ns o _),addK_app _ _ o (by rw [addK_len]; exact ho),addK_add,List.nil_append,List.append_assoc];rfl
     · rw [<- h3]
       show (sp ++ [(p,p + k + hd.n)]) ++ (f.spans (p + k) ++ (f2.spans (p + k + hd.n) ++ sfill e es gs2)) = sp ++ (((p,p + ((Head.encL hd.c hd.t true f.enc.length).length + f.enc.length)) :: (f.spans (p + (Head.encL hd.c hd.t true f.enc.length).length) ++ f2.spans (p + ((Head.encL hd.c hd.t true f.enc.length).length + f.enc.length)))) ++ sfill e es gs2)
       rw [hkl,hfl,<- Nat.add_assoc];simp
theorem top_err {R:Int -> ByteArray -> Bool} {s:ByteArray} (h0:0 < s.size) (h1:s.size <= 65535) (c:Nat) (hl:look R s 0 s.size 1 0 = .error c):top R s = .error (c,0):=by
 unfold top one;rw [if_neg (by omega),if_neg (by omega),hl]
theorem top_prim {R:Int -> ByteArray -> Bool} {s:ByteArray} (h0:0 < s.size) (h1:s.size <= 65535) (hd:Head.Hd) (k:Nat) (hl:look R s 0 s.size 1 0 = .ok (hd,k)) (hb:hd.b = false) :
   Good R s (top R s) [⟨hd.c,hd.t,false,s.extract (0 + k) (0 + k + hd.n),[]⟩] [(0,0 + k + hd.n)] [] [] (0 + k + hd.n):=by
 have lk:=look_ok hl;have l1:=lk.fit;have hds:(s.extract (0 + k) (0 + k + hd.n)).size = hd.n:=by rw [ByteArray.size_extract]; omega
 have hkl:(Head.encL hd.c hd.t false (s.extract (0 + k) (0 + k + hd.n)).size).length = k:=by rw [hds,show false = hd.b from hb.symm]; exact lk.len
 have ht:top R s = if 0 + k + hd.n < s.size then .error (5,0 + k + hd.n) else .ok (.prim hd.c hd.t (s.extract (0 + k) (0 + k + hd.n)) .nil):=by
   unfold top one;rw [if_neg (by omega),if_neg (by omega),hl];dsimp only;rw [if_neg (by rw [hb]; decide)]
 rw [ht];unfold Good
 by_cases hq:0 + k + hd.n < s.size
 · rw [if_pos hq]
   show rest R s [] _ _ = _
   unfold rest;rw [if_pos hq]
 · rw [if_neg hq];refine ⟨[],by unfold rest; rw [if_neg hq],rfl, ?_⟩
   show [(0,0 + k + hd.n)] ++ [] = [(0,0 + ((Head.encL hd.c hd.t false (s.extract (0 + k) (0 + k + hd.n)).size).length + (s.extract (0 + k) (0 + k + hd.n)).size))]
   rw [hkl,hds,<- Nat.add_assoc];rfl
theorem top_cons {R:Int -> ByteArray -> Bool} {s:ByteArray} (h0:0 < s.size) (h1:s.size <= 65535) (hd:Head.Hd) (k:Nat) (hl:look R s 0 s.size 1 0 = .ok (hd,k)) (hb:hd.b = true) :
   Good R s (top R s) [⟨hd.c,hd.t,true,⟨#[]⟩,[]⟩] [(0,0 + k + hd.n)] [0] [0 + k + hd.n] (0 + k):=by
 have lk:=look_ok hl;have l1:=lk.fit;have ht:top R s = match decA R s (0 + k) (0 + k + hd.n) 2 1 with | .error x => .error x | .ok ks => if 0 + k + hd.n < s.size then .error (5,0 + k + hd.n) else .ok (.cons hd.c hd.t ks .nil):=by
   unfold top one;rw [if_neg (by omega),if_neg (by omega),hl];dsimp only;rw [if_pos hb];cases decA R s (0 + k) (0 + k + hd.n) (1 + 1) (0 + 1) <;> rfl
 rw [ht];unfold Good;have hr:∀ p,rest R s [0 + k + hd.n] p 1 = match decA R s p (0 + k + hd.n) 2 1 with | .error x => .error x | .ok f => match rest R s [] (0 + k + hd.n) (1 + f.cnt) with | .error x => .error x | .ok fs => .ok (f :: fs):=fun p => rfl
 cases hd1:decA R s (0 + k) (0 + k + hd.n) 2 1 with
 | error x =>
   show rest R s [0 + k + hd.n] (0 + k) 1 = .error x
   rw [hr,hd1]
 | ok ks =>
   dsimp only
   by_cases hq:0 + k + hd.n < s.size
   · rw [if_pos hq]
     show rest R s [0 + k + hd.n] (0 + k) 1 = _
     rw [hr,hd1];dsimp only;unfold rest;rw [if_pos hq]
   · rw [if_neg hq];have hfl:ks.enc.length = hd.n:=by rw [decA_enc (by omega) (by omega) hd1]; omega
     have hkl:(Head.encL hd.c hd.t true ks.enc.length).length = k:=by rw [hfl,show true = hd.b from hb.symm]; exact lk.len
     refine ⟨[ks], ?_, ?_, ?_⟩
     · show rest R s [0 + k + hd.n] (0 + k) 1 = _
       rw [hr,hd1];dsimp only;unfold rest;rw [if_neg hq]
     · show addK [(⟨hd.c,hd.t,true,⟨#[]⟩,[]⟩:Nd)] 0 (ks.tops 1) ++ ks.flat 1 = ⟨hd.c,hd.t,true,⟨#[]⟩,ks.tops 1⟩ :: (ks.flat 1 ++ [])
       rw [List.append_nil];rfl
     · show [(0,0 + k + hd.n)] ++ (ks.spans (0 + k) ++ []) = (0,0 + ((Head.encL hd.c hd.t true ks.enc.length).length + ks.enc.length)) :: (ks.spans (0 + (Head.encL hd.c hd.t true ks.enc.length).length) ++ [])
       rw [hkl,hfl,<- Nat.add_assoc];rfl
end Tlv
end Go.Proofs.YtpanhhjkecebkaaGreat
namespace Go.Proofs.YtpanhhjkecebkaaGreat
namespace Tree
open Tlv
def oneB (R:Int -> ByteArray -> Bool) (x:Nd):Bool :=
 decide (0 <= x.c) && decide (x.c <= 3) && decide (0 <= x.t) && decide (x.t <= 2097151) &&
 (if x.b then decide (x.d.size = 0) && (decide (x.c ≠ 0) || decide (x.t = 16) || decide (x.t = 17)) else decide (x.k.length = 0) && (decide (x.c ≠ 0) || R x.t x.d))
def kidsB (b:Nat -> Option Nat):List Int -> Nat -> Option Nat
 | [],nx => some nx
 | a :: l,nx => if a = (nx:Int) then (match b nx with | none => none | some e => kidsB b l e) else none
def behB (R:Int -> ByteArray -> Bool) (N:List Nd):Nat -> Nat -> Option Nat
 | 0,_ => none
 | f + 1,i => match N[i]? with
   | none => none
   | some x => if oneB R x then kidsB (behB R N f) x.k (i + 1) else none
def rigB (R:Int -> ByteArray -> Bool) (N:List Nd):Bool:=decide (0 < N.length) && decide (N.length <= 1000) && decide (behB R N 16 0 = some N.length)
def okF (R:Int -> ByteArray -> Bool):F -> Prop
 | .nil => True
 | .prim c t d nx => c <= 3 /\ t <= 2097151 /\ (c ≠ 0 ∨ R (t:Int) d = true) /\ okF R nx
 | .cons c t ks nx => c <= 3 /\ t <= 2097151 /\ (c ≠ 0 ∨ t = 16 ∨ t = 17) /\ okF R ks /\ okF R nx
def At (N:List Nd) (i:Nat) (l:List Nd):Prop:=∀ (j:Nat) (x:Nd),l[j]? = some x -> N[i + j]? = some x
theorem At.tail {N:List Nd} {i:Nat} {y:Nd} {l:List Nd} (h:At N i (y :: l)):At N (i + 1) l:=fun j x hx => by
 have:=h (j + 1) x hx;rw [show i + 1 + j = i + (j + 1) by omega];exact this
theorem At.head {N:List Nd} {i:Nat} {y:Nd} {l:List Nd} (h:At N i (y :: l)):N[i]? = some y:=h 0 y rfl
theorem At.left {N:List Nd} {i:Nat} {l m:List Nd} (h:At N i (l ++ m)):At N i l:=fun j x hx => h j x (by
 rw [List.getElem?_append_left (List.getElem?_eq_some_iff.1 hx).1]; exact hx)
theorem At.right {N:List Nd} {i:Nat} {l m:List Nd} (h:At N i (l ++ m)):At N (i + l.length) m:=fun j x hx => by
 have:=h (l.length + j) x (by rw [List.getElem?_append_right (by omega),Nat.add_sub_cancel_left]; exact hx);rw [Nat.add_assoc];exact this
theorem At.app {N:List Nd} {i:Nat} {l m:List Nd} (h1:At N i l) (h2:At N (i + l.length) m):At N i (l ++ m):=fun j x hx => by
 by_cases hj:j < l.length
 · exact h1 j x (by rw [List.getElem?_append_left hj] at hx; exact hx)
 · rw [List.getElem?_append_right (by omega)] at hx;have:=h2 (j - l.length) x hx;rw [show i + l.length + (j - l.length) = i + j by omega] at this;exact this
theorem At.cons {N:List Nd} {i:Nat} {y:Nd} {l:List Nd} (h1:N[i]? = some y) (h2:At N (i + 1) l):At N i (y :: l):=fun j x hx => by
 cases j with
 | zero => cases hx; exact h1
 | succ j =>
   have:=h2 j x hx;rw [show i + 1 + j = i + (j + 1) by omega] at this;exact this
theorem one_prim {R:Int -> ByteArray -> Bool} {c t:Nat} {d:ByteArray} (h1:c <= 3) (h2:t <= 2097151) (h3:c ≠ 0 ∨ R (t:Int) d = true):oneB R ⟨c,t,false,d,[]⟩ = true:=by
 unfold oneB;simp only [Bool.and_eq_true,decide_eq_true_eq];refine ⟨⟨⟨⟨by omega,by omega⟩,by omega⟩,by omega⟩, ?_⟩;rw [if_neg (by decide)];simp only [List.length_nil,decide_true,Bool.true_and,Bool.or_eq_true,decide_eq_true_eq];rcases h3 with h3 | h3
 · exact .inl (by omega)
 · exact .inr h3
theorem one_cons {R:Int -> ByteArray -> Bool} {c t:Nat} {k:List Int} (h1:c <= 3) (h2:t <= 2097151) (h3:c ≠ 0 ∨ t = 16 ∨ t = 17):oneB R ⟨c,t,true,⟨#[]⟩,k⟩ = true:=by
 unfold oneB;simp only [Bool.and_eq_true,decide_eq_true_eq];refine ⟨⟨⟨⟨by omega,by omega⟩,by omega⟩,by omega⟩, ?_⟩;rw [if_pos trivial];simp only [Bool.and_eq_true,Bool.or_eq_true,decide_eq_true_eq];refine ⟨rfl, ?_⟩;rcases h3 with h3 | h3 | h3
 · exact .inl (.inl (by omega))
 · exact .inl (.inr (by omega))
 · exact .inr (by omega)
theorem kids_of (R:Int -> ByteArray -> Bool) (N:List Nd) (g:F):∀ (f i:Nat),okF R g -> At N i (g.flat i) -> g.deep <= f -> kidsB (behB R N f) (g.tops i) i = some (i + g.cnt):=by
 induction g with
 | nil => intro f i _ _ _; rfl
 | prim c t d nx ih =>
   intro f i h1 h2 h3;obtain ⟨a1,a2,a3,a4⟩:=h1;have h3':max 1 nx.deep <= f:=h3;obtain ⟨f',rfl⟩:∃ f',f = f' + 1:=⟨f - 1,by omega⟩
   show kidsB _ ((i:Int) :: nx.tops (i + 1)) i = _
   unfold kidsB;rw [if_pos rfl];have e1:behB R N (f' + 1) i = some (i + 1):=by
     unfold behB;rw [show N[i]? = some ⟨c,t,false,d,[]⟩ from At.head h2];dsimp only;rw [if_pos (one_prim a1 a2 a3)];rfl
   rw [e1];dsimp only;rw [ih (f' + 1) (i + 1) a4 (At.tail h2) (by omega)]
   show some (i + 1 + nx.cnt) = some (i + (1 + nx.cnt))
   rw [Nat.add_assoc]
 | cons c t ks nx ih1 ih2 =>
   intro f i h1 h2 h3;obtain ⟨a1,a2,a3,a4,a5⟩:=h1;have h3':max (ks.deep + 1) nx.deep <= f:=h3;obtain ⟨f',rfl⟩:∃ f',f = f' + 1:=⟨f - 1,by omega⟩
   show kidsB _ ((i:Int) :: nx.tops (i + 1 + ks.cnt)) i = _
   unfold kidsB;rw [if_pos rfl];have ht:At N (i + 1) (ks.flat (i + 1) ++ nx.flat (i + 1 + ks.cnt)):=At.tail h2;have e1:behB R N (f' + 1) i = some (i + 1 + ks.cnt):=by
     unfold behB;rw [show N[i]? = some ⟨c,t,true,⟨#[]⟩,ks.tops (i + 1)⟩ from At.head h2];dsimp only;rw [if_pos (one_cons a1 a2 a3)];exact ih1 f' (i + 1) a4 ht.left (by omega)
   rw [e1];dsimp only;have h9:=ht.right;rw [F.flat_len] at h9;rw [ih2 (f' + 1) (i + 1 + ks.cnt) a5 h9 (by omega)]
   show some (i + 1 + ks.cnt + nx.cnt) = some (i + (1 + ks.cnt + nx.cnt))
   congr 1
   omega
theorem of_kids (R:Int -> ByteArray -> Bool) (N:List Nd):∀ (f:Nat) (l:List Int) (nx e:Nat),kidsB (behB R N f) l nx = some e -> ∃ g:F,okF R g /\ At N nx (g.flat nx) /\ g.tops nx = l /\ e = nx + g.cnt /\ g.deep <= f:=by
 intro f
 induction f with
 | zero =>
   intro l nx e h;cases l with
   | nil => cases h; exact ⟨F.nil,trivial,(fun j x hx => by cases hx),rfl,rfl,Nat.le_refl _⟩
   | cons a l =>
     unfold kidsB at h
     split at h
     · cases h
     · cases h
 | succ f ihf =>
   intro l
   induction l with
   | nil => intro nx e h; cases h; exact ⟨F.nil,trivial,(fun j x hx => by cases hx),rfl,rfl,Nat.zero_le _⟩
   | cons a l ihl =>
     intro nx e h;unfold kidsB at h
     split at h
     · rename_i ha
       cases hb:behB R N (f + 1) nx with
       | none => rw [hb] at h; cases h
       | some e1 =>
         rw [hb] at h;dsimp only at h;unfold behB at hb;cases hx:N[nx]? with
         | none => rw [hx] at hb; cases hb
         | some x =>
           rw [hx] at hb;dsimp only at hb
           split at hb
           · rename_i ho
             obtain ⟨ks,k1,k2,k3,rfl,k5⟩:=ihf _ _ _ hb;obtain ⟨g,g1,g2,g3,rfl,g5⟩:=ihl _ _ h;obtain ⟨xc,xt,xb,xd,xk⟩:=x;unfold oneB at ho;simp only [Bool.and_eq_true,decide_eq_true_eq] at ho;obtain ⟨⟨⟨⟨o1,o2⟩,o3⟩,o4⟩,o5⟩:=ho;obtain ⟨c,rfl⟩:∃ c:Nat,xc = (c:Int):=⟨xc.toNat,by omega⟩
             obtain ⟨t,rfl⟩:∃ t:Nat,xt = (t:Int):=⟨xt.toNat,by omega⟩
             cases xb with
             | true =>
               rw [if_pos rfl] at o5;simp only [Bool.and_eq_true,Bool.or_eq_true,decide_eq_true_eq] at o5;obtain ⟨p1,p2⟩:=o5;have hd:xd = ⟨#[]⟩:=ba_ext (List.length_eq_zero_iff.1 (show xd.data.toList.length = 0 from p1));subst hd;dsimp only at k3;subst k3;refine ⟨.cons c t ks g,⟨by omega,by omega, ?_,k1,g1⟩, ?_, ?_, ?_, ?_⟩
               · rcases p2 with (p2 | p2) | p2
                 · exact .inl (by omega)
                 · exact .inr (.inl (by omega))
                 · exact .inr (.inr (by omega))
               · show At N nx (_ :: (ks.flat (nx + 1) ++ g.flat (nx + 1 + ks.cnt)))
                 refine At.cons hx (At.app k2 ?_);rw [F.flat_len];exact g2
               · show (nx:Int) :: g.tops (nx + 1 + ks.cnt) = a :: l
                 rw [g3,ha]
               · show _ = nx + (1 + ks.cnt + g.cnt); omega
               · show max (ks.deep + 1) g.deep <= f + 1; omega
             | false =>
               rw [if_neg (by decide)] at o5;simp only [Bool.and_eq_true,Bool.or_eq_true,decide_eq_true_eq] at o5;obtain ⟨p1,p2⟩:=o5;have hk:xk = []:=List.length_eq_zero_iff.1 p1;subst hk;dsimp only at k3;have hks:ks.cnt = 0:=by
                 cases ks with
                 | nil => rfl
                 | prim _ _ _ _ => cases k3
                 | cons _ _ _ _ => cases k3
               rw [hks] at g2 g3 ⊢;refine ⟨.prim c t xd g,⟨by omega,by omega, ?_,g1⟩, ?_, ?_, ?_, ?_⟩
               · rcases p2 with p2 | p2
                 · exact .inl (by omega)
                 · exact .inr p2
               · exact At.cons hx g2
               · show (nx:Int) :: g.tops (nx + 1) = a :: l
                 rw [show nx + 1 + 0 = nx + 1 from rfl] at g3;rw [g3,ha]
               · show _ = nx + (1 + g.cnt); omega
               · show max 1 g.deep <= f + 1; omega
           · cases hb
     · cases h
def single:F -> Prop
 | .nil => False
 | .prim _ _ _ nx => nx = .nil
 | .cons _ _ _ nx => nx = .nil
theorem tops_single {g:F} {i:Nat} (h:g.tops i = [(i:Int)]):single g:=by
 cases g with
 | nil => cases h
 | prim c t d nx =>
   have h2:nx.tops (i + 1) = []:=(List.cons.inj h).2;cases nx with
   | nil => rfl
   | prim _ _ _ _ => cases h2
   | cons _ _ _ _ => cases h2
 | cons c t ks nx =>
   have h2:nx.tops (i + 1 + ks.cnt) = []:=(List.cons.inj h).2;cases nx with
   | nil => rfl
   | prim _ _ _ _ => cases h2
   | cons _ _ _ _ => cases h2
theorem single_tops {g:F} (h:single g) (i:Nat):g.tops i = [(i:Int)]:=by
 cases g with
 | nil => exact absurd h (by intro h; exact h)
 | prim c t d nx => cases (show nx = .nil from h); rfl
 | cons c t ks nx => cases (show nx = .nil from h); rfl
structure IsT (R:Int -> ByteArray -> Bool) (N:List Nd) (g:F):Prop where
 ok:okF R g
 one:single g
 flat:N = g.flat 0
 deep:g.deep <= 16
 len:N.length <= 1000
theorem beh_kids (R:Int -> ByteArray -> Bool) (N:List Nd) (f i:Nat):behB R N f i = kidsB (behB R N f) [(i:Int)] i:=by
 unfold kidsB;rw [if_pos rfl];cases behB R N f i with
 | none => rfl
 | some e => rfl
theorem right_is {R:Int -> ByteArray -> Bool} {N:List Nd} (h:rigB R N = true):∃ g,IsT R N g:=by
 unfold rigB at h;simp only [Bool.and_eq_true,decide_eq_true_eq] at h;obtain ⟨⟨h1,h2⟩,h3⟩:=h;rw [beh_kids] at h3;obtain ⟨g,g1,g2,g3,g4,g5⟩:=of_kids R N _ _ _ _ h3;refine ⟨g,g1,tops_single g3, ?_,g5,h2⟩;rw [Nat.zero_add] at g4
 apply List.ext_getElem?
 intro j
 by_cases hj:j < N.length
 · have:=g2 j _ (List.getElem?_eq_getElem (by rw [F.flat_len]; omega));rw [Nat.zero_add] at this;rw [this];exact (List.getElem?_eq_getElem (by rw [F.flat_len]; omega)).symm
 · rw [List.getElem?_eq_none (by omega),List.getElem?_eq_none (by rw [F.flat_len]; omega)]
theorem is_right {R:Int -> ByteArray -> Bool} {N:List Nd} {g:F} (h:IsT R N g):rigB R N = true:=by
 obtain ⟨h1,h2,h3,h4,h5⟩:=h;have hc:N.length = g.cnt:=by rw [h3,F.flat_len]
 have hp:0 < g.cnt:=by
   cases g with
   | nil => exact absurd h2 (by intro h; exact h)
   | prim _ _ _ _ => show 0 < 1 + _; omega
   | cons _ _ _ _ => show 0 < 1 + _ + _; omega
 unfold rigB;simp only [Bool.and_eq_true,decide_eq_true_eq];refine ⟨⟨by omega,h5⟩, ?_⟩;rw [beh_kids,<- single_tops h2 0];rw [kids_of R N g 16 0 h1 (fun j x hx => by rw [Nat.zero_add,h3]; exact hx) h4,hc,Nat.zero_add]
theorem dec_of (R:Int -> ByteArray -> Bool) (s:ByteArray) (g:F):∀ (f p e deep cnt:Nat),okF R g -> (s.extract p e).data.toList = g.enc -> e <= s.size -> p <= e -> deep + g.deep <= 17 -> cnt + g.cnt <= 1000 -> e - p < f -> g.enc.length <= 65535 -> dec R s f p e deep cnt = .ok g:=by
 induction g with
 | nil =>
   intro f p e deep cnt _ h1 h2 h3 _ _ h4 _;obtain ⟨f,rfl⟩:∃ f',f = f' + 1:=⟨f - 1,by omega⟩
   have hl:=ext_len s p e h2;rw [h1] at hl;have hl2:e - p = 0:=hl.symm;unfold dec;rw [if_pos (by omega)]
 | prim c t d nx ih =>
   intro f p e deep cnt hok h1 h2 h3 h5 h6 h4 h7;obtain ⟨a1,a2,a3,a4⟩:=hok;obtain ⟨f,rfl⟩:∃ f',f = f' + 1:=⟨f - 1,by omega⟩
   have hE:(F.prim c t d nx).enc = Head.encL c t false d.size ++ (d.data.toList ++ nx.enc):=by
     show Head.encL c t false d.size ++ d.data.toList ++ nx.enc = _
     rw [List.append_assoc]
   have hd0:d.data.toList.length = d.size:=rfl;obtain ⟨k,hk⟩:∃ k,k = (Head.encL c t false d.size).length:=⟨_,rfl⟩
   have hlen:e - p = k + (d.size + nx.enc.length):=by
     have:=ext_len s p e h2;rw [h1,hE,List.length_append,List.length_append,hd0,<- hk] at this;omega
   have hk2:=encL_two c t false d.size;have h7':k + (d.size + nx.enc.length) <= 65535:=by rw [hE,List.length_append,List.length_append,hd0,<- hk] at h7; exact h7
   have h5':deep + max 1 nx.deep <= 17:=h5;have h6':cnt + (1 + nx.cnt) <= 1000:=h6;have x1:(s.extract p (p + k)).data.toList = Head.encL c t false d.size /\ (s.extract (p + k) e).data.toList = d.data.toList ++ nx.enc:=by
     have:=ext_app s p (p + k) e (by omega) (by omega);rw [h1,hE] at this;exact (List.append_inj this.symm (by rw [ext_len s p (p + k) (by omega)]; omega))
   have x2:(s.extract (p + k) (p + k + d.size)).data.toList = d.data.toList /\ (s.extract (p + k + d.size) e).data.toList = nx.enc:=by
     have:=ext_app s (p + k) (p + k + d.size) e (by omega) (by omega);rw [x1.2] at this;exact (List.append_inj this.symm (by rw [ext_len s _ _ (by omega),hd0]; omega))
   have xd:s.extract (p + k) (p + k + d.size) = d:=ba_ext x2.1;have hl:Tlv.look R s p e deep cnt = .ok (⟨c,t,false,d.size⟩,k):=by
     unfold Tlv.look;rw [h1,hE,Head.dec_enc c t d.size false a1 a2 (by omega)];simp only;rw [if_neg (by omega),if_neg (by rw [<- hk]; omega),if_neg (by omega),if_neg (by omega),<- hk,xd,if_pos];unfold formB;simp only [Bool.or_eq_true,decide_eq_true_eq];rcases a3 with a3 | a3
     · exact .inl a3
     · exact .inr (by rw [if_neg (by decide)]; exact a3)
   unfold dec;rw [if_neg (by omega),hl];simp only;rw [if_neg (by decide),ih f (p + k + d.size) e deep (cnt + 1) a4 x2.2 h2 (by omega) (by omega) (by omega) (by omega) (by omega)];simp only [xd]
 | cons c t ks nx ih1 ih2 =>
   intro f p e deep cnt hok h1 h2 h3 h5 h6 h4 h7;obtain ⟨a1,a2,a3,a4,a5⟩:=hok;obtain ⟨f,rfl⟩:∃ f',f = f' + 1:=⟨f - 1,by omega⟩
   have hE:(F.cons c t ks nx).enc = Head.encL c t true ks.enc.length ++ (ks.enc ++ nx.enc):=by
     show Head.encL c t true ks.enc.length ++ ks.enc ++ nx.enc = _
     rw [List.append_assoc]
   obtain ⟨n,hn⟩:∃ n,n = ks.enc.length:=⟨_,rfl⟩
   obtain ⟨k,hk⟩:∃ k,k = (Head.encL c t true ks.enc.length).length:=⟨_,rfl⟩
   have hlen:e - p = k + (n + nx.enc.length):=by
     have:=ext_len s p e h2;rw [h1,hE,List.length_append,List.length_append,<- hk,<- hn] at this;omega
   have hk2:=encL_two c t true ks.enc.length;have h7':k + (n + nx.enc.length) <= 65535:=by rw [hE,List.length_append,List.length_append,<- hk,<- hn] at h7; exact h7
   have h5':deep + max (ks.deep + 1) nx.deep <= 17:=h5;have h6':cnt + (1 + ks.cnt + nx.cnt) <= 1000:=h6;have x1:(s.extract p (p + k)).data.toList = Head.encL c t true ks.enc.length /\ (s.extract (p + k) e).data.toList = ks.enc ++ nx.enc:=by
     have:=ext_app s p (p + k) e (by omega) (by omega);rw [h1,hE] at this;exact (List.append_inj this.symm (by rw [ext_len s p (p + k) (by omega)]; omega))
   have x2:(s.extract (p + k) (p + k + n)).data.toList = ks.enc /\ (s.extract (p + k + n) e).data.toList = nx.enc:=by
     have:=ext_app s (p + k) (p + k + n) e (by omega) (by omega);rw [x1.2] at this;exact (List.append_inj this.symm (by rw [ext_len s _ _ (by omega)]; omega))
   have hl:Tlv.look R s p e deep cnt = .ok (⟨c,t,true,n⟩,k):=by
     unfold Tlv.look;rw [h1,hE,<- hn,Head.dec_enc c t n true a1 a2 (by omega)];simp only;rw [hn,<- hk,<- hn];rw [if_neg (by omega),if_neg (by omega),if_neg (by omega),if_neg (by omega),if_pos];unfold formB;simp only [Bool.or_eq_true,decide_eq_true_eq];rcases a3 with a3 | a3 | a3
     · exact .inl a3
     · exact .inr (by rw [if_pos trivial]; simp [a3])
     · exact .inr (by rw [if_pos trivial]; simp [a3])
   unfold dec;rw [if_neg (by omega),hl];simp only;rw [if_pos trivial,ih1 f (p + k) (p + k + n) (deep + 1) (cnt + 1) a4 x2.1 (by omega) (by omega) (by omega) (by omega) (by omega) (by omega)];simp only;rw [ih2 f (p + k + n) e deep (cnt + 1 + ks.cnt) a5 x2.2 h2 (by omega) (by omega) (by omega) (by omega) (by omega)]
end Tree
end Go.Proofs.YtpanhhjkecebkaaGreat
namespace Go.Proofs.YtpanhhjkecebkaaGreat
namespace Tree
open Tlv
def bodies:F -> List (List UInt8)
 | .nil => []
 | .prim _ _ d nx => d.data.toList :: bodies nx
 | .cons _ _ ks nx => ks.enc :: (bodies ks ++ bodies nx)
def el (x:Nd) (b:List UInt8):List UInt8:=Head.encL x.c.toNat x.t.toNat x.b b.length ++ b
def elAt (N:List Nd) (Bs:List (List UInt8)) (a:Nat):List UInt8:=match N[a]?,Bs[a]? with
 | some x,some b => el x b
 | _,_ => []
def AtB (Bs:List (List UInt8)) (i:Nat) (l:List (List UInt8)):Prop:=∀ (j:Nat) x,l[j]? = some x -> Bs[i + j]? = some x
theorem AtB.tail {N:List (List UInt8)} {i:Nat} {y:List UInt8} {l:List (List UInt8)} (h:AtB N i (y :: l)):AtB N (i + 1) l:=fun j x hx => by
 have:=h (j + 1) x hx;rw [show i + 1 + j = i + (j + 1) by omega];exact this
theorem AtB.left {N:List (List UInt8)} {i:Nat} {l m:List (List UInt8)} (h:AtB N i (l ++ m)):AtB N i l:=fun j x hx => h j x (by
 rw [List.getElem?_append_left (List.getElem?_eq_some_iff.1 hx).1]; exact hx)
theorem AtB.right {N:List (List UInt8)} {i:Nat} {l m:List (List UInt8)} (h:AtB N i (l ++ m)):AtB N (i + l.length) m:=fun j x hx => by
 have:=h (l.length + j) x (by rw [List.getElem?_append_right (by omega),Nat.add_sub_cancel_left]; exact hx);rw [Nat.add_assoc];exact this
theorem bodies_len (g:F):(bodies g).length = g.cnt:=by
 induction g with
 | nil => rfl
 | prim c t d nx ih => show (bodies nx).length + 1 = 1 + nx.cnt; omega
 | cons c t ks nx ih1 ih2 => show (bodies ks ++ bodies nx).length + 1 = 1 + ks.cnt + nx.cnt; rw [List.length_append]; omega
theorem tops_in (g:F):∀ (i:Nat) (a:Int),a ∈ g.tops i -> (i:Int) <= a /\ a < ((i + g.cnt:Nat):Int):=by
 induction g with
 | nil => intro i a h; cases h
 | prim c t d nx ih =>
   intro i a h;have hc:(F.prim c t d nx).cnt = 1 + nx.cnt:=rfl;rcases List.mem_cons.1 (show a ∈ (i:Int) :: nx.tops (i + 1) from h) with rfl | h
   · omega
   · have:=ih _ _ h;omega
 | cons c t ks nx _ ih =>
   intro i a h;have hc:(F.cons c t ks nx).cnt = 1 + ks.cnt + nx.cnt:=rfl;rcases List.mem_cons.1 (show a ∈ (i:Int) :: nx.tops (i + 1 + ks.cnt) from h) with rfl | h
   · omega
   · have:=ih _ _ h;omega
def elsAt (N:List Nd) (Bs:List (List UInt8)) (l:List Int):List UInt8:=l.flatMap (fun a => elAt N Bs a.toNat)
theorem elAt_eq {N:List Nd} {Bs:List (List UInt8)} {a:Nat} {x:Nd} {b:List UInt8} (h1:N[a]? = some x) (h2:Bs[a]? = some b):elAt N Bs a = el x b:=by
 unfold elAt;rw [h1,h2]
theorem els_tops (N:List Nd) (Bs:List (List UInt8)) (g:F):∀ (i:Nat),At N i (g.flat i) -> AtB Bs i (bodies g) -> elsAt N Bs (g.tops i) = g.enc:=by
 induction g with
 | nil => intro i _ _; rfl
 | prim c t d nx ih =>
   intro i h1 h2
   show elAt N Bs ((i:Int)).toNat ++ elsAt N Bs (nx.tops (i + 1)) = _
   rw [ih (i + 1) (At.tail h1) (AtB.tail h2),Int.toNat_natCast,elAt_eq (At.head h1) (h2 0 _ rfl)];rfl
 | cons c t ks nx _ ih =>
   intro i h1 h2;have t1:At N (i + 1) (ks.flat (i + 1) ++ nx.flat (i + 1 + ks.cnt)):=At.tail h1;have t2:AtB Bs (i + 1) (bodies ks ++ bodies nx):=AtB.tail h2;have t3:=t1.right;have t4:=t2.right;rw [F.flat_len] at t3;rw [bodies_len] at t4
   show elAt N Bs ((i:Int)).toNat ++ elsAt N Bs (nx.tops (i + 1 + ks.cnt)) = _
   rw [ih (i + 1 + ks.cnt) t3 t4,Int.toNat_natCast,elAt_eq (At.head h1) (h2 0 _ rfl)];rfl
theorem body_at (N:List Nd) (Bs:List (List UInt8)) (g:F):∀ (i:Nat),At N i (g.flat i) -> AtB Bs i (bodies g) -> ∀ (j:Nat) (x:Nd),(g.flat i)[j]? = some x -> (bodies g)[j]? = some (x.d.data.toList ++ elsAt N Bs x.k) /\ (∀ a ∈ x.k,((i + j:Nat):Int) < a /\ a < ((i + g.cnt:Nat):Int)):=by
 induction g with
 | nil => intro i _ _ j x h; cases h
 | prim c t d nx ih =>
   intro i h1 h2 j x hx;have hc:(F.prim c t d nx).cnt = 1 + nx.cnt:=rfl;cases j with
   | zero =>
     have e:(⟨c,t,false,d,[]⟩:Nd) = x:=Option.some.inj hx;rw [<- e];refine ⟨?_,by simp⟩
     show some d.data.toList = some (d.data.toList ++ [])
     rw [List.append_nil]
   | succ j =>
     obtain ⟨a1,a2⟩:=ih (i + 1) (At.tail h1) (AtB.tail h2) j x hx;exact ⟨a1,fun a ha => by have:=a2 a ha; omega⟩
 | cons c t ks nx ih1 ih2 =>
   intro i h1 h2 j x hx;have hc:(F.cons c t ks nx).cnt = 1 + ks.cnt + nx.cnt:=rfl;have t1:At N (i + 1) (ks.flat (i + 1) ++ nx.flat (i + 1 + ks.cnt)):=At.tail h1;have t2:AtB Bs (i + 1) (bodies ks ++ bodies nx):=AtB.tail h2;have t3:=t1.right;have t4:=t2.right;rw [F.flat_len] at t3;rw [bodies_len] at t4;cases j with
   | zero =>
     have e:(⟨c,t,true,⟨#[]⟩,ks.tops (i + 1)⟩:Nd) = x:=Option.some.inj hx;rw [<- e];refine ⟨?_,fun a ha => ?_⟩
     · show some ks.enc = some ([] ++ elsAt N Bs (ks.tops (i + 1)))
       rw [List.nil_append,els_tops N Bs ks (i + 1) t1.left t2.left]
     · have:=tops_in ks (i + 1) a ha;omega
   | succ j =>
     have hx':(ks.flat (i + 1) ++ nx.flat (i + 1 + ks.cnt))[j]? = some x:=hx
     show (bodies ks ++ bodies nx)[j]? = _ /\ _
     by_cases hj:j < ks.cnt
     · rw [List.getElem?_append_left (by rw [F.flat_len]; exact hj)] at hx';obtain ⟨a1,a2⟩:=ih1 (i + 1) t1.left t2.left j x hx';rw [List.getElem?_append_left (by rw [bodies_len]; exact hj)];exact ⟨a1,fun a ha => by have:=a2 a ha; omega⟩
     · rw [List.getElem?_append_right (by rw [F.flat_len]; omega),F.flat_len] at hx';obtain ⟨a1,a2⟩:=ih2 (i + 1 + ks.cnt) t3 t4 (j - ks.cnt) x hx';rw [List.getElem?_append_right (by rw [bodies_len]; omega),bodies_len];exact ⟨a1,fun a ha => by have:=a2 a ha; omega⟩
def hdd (p:Nd × List UInt8):List UInt8:=Head.encL p.1.c.toNat p.1.t.toNat p.1.b p.2.length ++ p.1.d.data.toList
theorem zip_enc (g:F):∀ (i:Nat),((g.flat i).zip (bodies g)).flatMap hdd = g.enc:=by
 induction g with
 | nil => intro i; rfl
 | prim c t d nx ih =>
   intro i
   show hdd (⟨c,t,false,d,[]⟩,d.data.toList) ++ ((nx.flat (i + 1)).zip (bodies nx)).flatMap hdd = _
   rw [ih];rfl
 | cons c t ks nx ih1 ih2 =>
   intro i
   show hdd (⟨c,t,true,⟨#[]⟩,ks.tops (i + 1)⟩,ks.enc) ++ ((ks.flat (i + 1) ++ nx.flat (i + 1 + ks.cnt)).zip (bodies ks ++ bodies nx)).flatMap hdd = _
   rw [List.zip_append (by rw [F.flat_len,bodies_len]),List.flatMap_append,ih1,ih2]
   show Head.encL c t true ks.enc.length ++ [] ++ (ks.enc ++ nx.enc) = Head.encL c t true ks.enc.length ++ ks.enc ++ nx.enc
   rw [List.append_nil,List.append_assoc]
theorem body_le (g:F):∀ b ∈ bodies g,b.length <= g.enc.length:=by
 induction g with
 | nil => intro b h; cases h
 | prim c t d nx ih =>
   intro b h;have hE:(F.prim c t d nx).enc.length = (Head.encL c t false d.size).length + d.data.toList.length + nx.enc.length:=by
     show (Head.encL c t false d.size ++ d.data.toList ++ nx.enc).length = _
     rw [List.length_append,List.length_append]
   rcases List.mem_cons.1 (show b ∈ d.data.toList :: bodies nx from h) with rfl | h
   · omega
   · have:=ih b h;omega
 | cons c t ks nx ih1 ih2 =>
   intro b h;have hE:(F.cons c t ks nx).enc.length = (Head.encL c t true ks.enc.length).length + ks.enc.length + nx.enc.length:=by
     show (Head.encL c t true ks.enc.length ++ ks.enc ++ nx.enc).length = _
     rw [List.length_append,List.length_append]
   rcases List.mem_cons.1 (show b ∈ ks.enc :: (bodies ks ++ bodies nx) from h) with rfl | h
   · omega
   · rcases List.mem_append.1 h with h | h
     · have:=ih1 b h;omega
     · have:=ih2 b h;omega
theorem ok_at (R:Int -> ByteArray -> Bool) (g:F):∀ (i:Nat),okF R g -> ∀ x ∈ g.flat i,∃ c t:Nat,x.c = (c:Int) /\ x.t = (t:Int) /\ c <= 3 /\ t <= 2097151:=by
 induction g with
 | nil => intro i _ x h; cases h
 | prim c t d nx ih =>
   intro i hk x h;obtain ⟨a1,a2,a3,a4⟩:=hk;rcases List.mem_cons.1 (show x ∈ (⟨c,t,false,d,[]⟩:Nd) :: nx.flat (i + 1) from h) with rfl | h
   · exact ⟨c,t,rfl,rfl,a1,a2⟩
   · exact ih _ a4 x h
 | cons c t ks nx ih1 ih2 =>
   intro i hk x h;obtain ⟨a1,a2,a3,a4,a5⟩:=hk;rcases List.mem_cons.1 (show x ∈ (⟨c,t,true,⟨#[]⟩,ks.tops (i + 1)⟩:Nd) :: (ks.flat (i + 1) ++ nx.flat (i + 1 + ks.cnt)) from h) with rfl | h
   · exact ⟨c,t,rfl,rfl,a1,a2⟩
   · rcases List.mem_append.1 h with h | h
     · exact ih1 _ a4 x h
     · exact ih2 _ a5 x h
structure Wr (N:List Nd) (Bs:List (List UInt8)) (S:List UInt8):Prop where
 pos:0 < N.length
 len:Bs.length = N.length
 bnd:∀ b ∈ Bs,b.length <= S.length
 nd:∀ x ∈ N,∃ c t:Nat,x.c = (c:Int) /\ x.t = (t:Int) /\ c <= 3 /\ t <= 2097151
 body:∀ (j:Nat) (x:Nd),N[j]? = some x -> Bs[j]? = some (x.d.data.toList ++ elsAt N Bs x.k) /\ ∀ a ∈ x.k,(j:Int) < a /\ a < (N.length:Int)
 zip:(N.zip Bs).flatMap hdd = S
 root:elAt N Bs 0 = S
theorem wr_of {R:Int -> ByteArray -> Bool} {N:List Nd} {g:F} (h:IsT R N g):Wr N (bodies g) g.enc:=by
 obtain ⟨h1,h2,rfl,h4,h5⟩:=h;have hA:At (g.flat 0) 0 (g.flat 0):=fun j x hx => by rw [Nat.zero_add]; exact hx
 have hB:AtB (bodies g) 0 (bodies g):=fun j x hx => by rw [Nat.zero_add]; exact hx
 have hc:0 < g.cnt:=by
   cases g with
   | nil => exact absurd h2 (by intro h; exact h)
   | prim _ _ _ _ => show 0 < 1 + _; omega
   | cons _ _ _ _ => show 0 < 1 + _ + _; omega
 refine ⟨by rw [F.flat_len]; exact hc,by rw [bodies_len,F.flat_len],body_le g,ok_at R g 0 h1,fun j x hx => ?_,zip_enc g 0, ?_⟩
 · obtain ⟨a1,a2⟩:=body_at _ _ g 0 hA hB j x hx;refine ⟨a1,fun a ha => ?_⟩;have:=a2 a ha;rw [F.flat_len];omega
 · have:=els_tops _ _ g 0 hA hB;rw [single_tops h2] at this
   simpa [elsAt] using this
end Tree
end Go.Proofs.YtpanhhjkecebkaaGreat
namespace Go.Proofs.YtpanhhjkecebkaaGreat
namespace Tree
open Tlv
def mx:List Nat -> Nat
 | [] => 0
 | a :: l => max a (mx l)
def levels:F -> Nat -> List Nat
 | .nil,_ => []
 | .prim _ _ _ nx,l => l :: levels nx l
 | .cons _ _ ks nx,l => l :: (levels ks (l + 1) ++ levels nx l)
def hts:F -> List Nat
 | .nil => []
 | .prim _ _ _ nx => 1 :: hts nx
 | .cons _ _ ks nx => (ks.deep + 1) :: (hts ks ++ hts nx)
structure Lev (N:List Nd) (Lv:List Nat) (m:Nat):Prop where
 len:Lv.length = N.length
 pos:0 < N.length
 root:Lv[0]? = some 1
 kid:∀ (j:Nat) (x:Nd),N[j]? = some x -> ∃ v,Lv[j]? = some (v + 1) /\ ∀ a ∈ x.k,Lv[a.toNat]? = some (v + 2) /\ (j:Int) < a /\ a < (N.length:Int)
 par:∀ j,0 < j -> j < N.length -> ∃ p x,p < j /\ N[p]? = some x /\ (j:Int) ∈ x.k
 top:mx Lv = m
 le:∀ v ∈ Lv,v <= m
structure Hgt (N:List Nd) (H:List Nat) (m:Nat):Prop where
 pos:0 < N.length
 at_:∀ (j:Nat) (x:Nd),N[j]? = some x -> H.getD j 0 = mx (x.k.map (fun a => H.getD a.toNat 0)) + 1 /\ H.getD j 0 <= 16 /\ ∀ a ∈ x.k,(j:Int) < a /\ a < (N.length:Int)
 top:H.getD 0 0 = m
end Tree
end Go.Proofs.YtpanhhjkecebkaaGreat
namespace Go.Proofs.YtpanhhjkecebkaaGreat
open Go.RowKit
namespace Head
end Head
namespace RefHead
open Head
def digF:Nat -> Nat -> Nat -> List UInt8 -> Option (Nat × Nat)
 | 0,_,_,_ => none
 | _ + 1,_,_,[] => none
 | f + 1,T,k,d :: r => if d.toNat < 128 then some (128 * T + d.toNat,k) else digF f (128 * T + (d.toNat - 128)) (k + 1) r
theorem digR_F (l:List UInt8):digR l = digF 3 0 1 l:=by
 match l with
 | [] => rfl
 | [a] => by_cases ha:a.toNat < 128 <;> simp [digR,digF,ha]
 | [a,b] =>
   by_cases ha:a.toNat < 128
   · simp [digR,digF,ha]
   · by_cases hb:b.toNat < 128 <;> simp [digR,digF,ha,hb]
 | a :: b :: c :: m =>
   by_cases ha:a.toNat < 128
   · simp [digR,digF,ha]
   · by_cases hb:b.toNat < 128
     · simp [digR,digF,ha,hb]
     · by_cases hc:c.toNat < 128 <;> simp [digR,digF,ha,hb,hc]
def rtagR:List UInt8 -> Option (Nat × Nat × Bool × Nat)
 | [] => none
 | x :: l => if x.toNat % 32 < 31 then some (x.toNat / 64,x.toNat % 32,decide (x.toNat / 32 % 2 = 1),1) else
   match digR l with
   | none => none
   | some (t,k) => some (x.toNat / 64,t,decide (x.toNat / 32 % 2 = 1),k + 1)
def rtagV:Option (Nat × Nat × Bool × Nat) -> Value
 | none => .tuple #[hdV 0 0 false 0,.int .i64 0]
 | some (c,t,b,k) => .tuple #[hdV c t b 0,.int .i64 (k:Int)]
theorem tagR_r (l:List UInt8):tagR l = match rtagR l with | none => none | some (c,t,b,k) => if tagL c t b = l.take k then some (c,t,b,k) else none:=by
 cases l with
 | nil => rfl
 | cons x l =>
   by_cases h31:x.toNat % 32 < 31
   · have h:=tagR_b (x :: l) (x.toNat / 64) (x.toNat % 32) (decide (x.toNat / 32 % 2 = 1)) 1 (by simp only [tagR,h31,if_true]);simp only [tagR,rtagR,h31,if_true];rw [if_pos h.2.2.2.2.2]
   · simp only [tagR,rtagR,h31,if_false];cases digR l with
     | none => rfl
     | some p => rfl
theorem cells4.drew {w:World} {B:Nat} {a b c d:Value} (h:cells4 w B a b c d):cells4 w.drew B a b c d:=h
theorem cells4.set1 {w:World} {B:Nat} {a b c d:Value} (h:cells4 w B a b c d) (x:Value):cells4 (w.setCell ⟨B,1,none⟩ x) B a x c d:=by
 obtain ⟨⟨h0,h1,h2,h3⟩,f0,f1,f2,f3⟩:=h;refine ⟨⟨?_, ?_, ?_, ?_⟩, ?_, ?_, ?_, ?_⟩
 · rw [World.cell?_setCell_other _ _ _ _ (by simp)]; exact h0
 · exact World.cell?_setCell_same _ _ _ h1
 · rw [World.cell?_setCell_other _ _ _ _ (by simp)]; exact h2
 · rw [World.cell?_setCell_other _ _ _ _ (by simp)]; exact h3
 · simpa [go_sem] using f0
 · simpa [go_sem] using f1
 · simpa [go_sem] using f2
 · simpa [go_sem] using f3
theorem cells4.other {w:World} {B B':Nat} {a b c d:Value} (h:cells4 w B a b c d) (hB:B' ≠ B) (j:Nat) (x:Value):cells4 (w.setCell ⟨B',j,none⟩ x) B a b c d:=by
 obtain ⟨⟨h0,h1,h2,h3⟩,f0,f1,f2,f3⟩:=h;refine ⟨⟨?_, ?_, ?_, ?_⟩, ?_, ?_, ?_, ?_⟩
 · rw [World.cell?_setCell_other _ _ _ _ (by simp)]; exact h0
 · rw [World.cell?_setCell_other _ _ _ _ (by simp)]; exact h1
 · rw [World.cell?_setCell_other _ _ _ _ (by simp)]; exact h2
 · rw [World.cell?_setCell_other _ _ _ _ (by simp)]; exact h3
 · simpa [go_sem] using f0
 · simpa [go_sem] using f1
 · simpa [go_sem] using f2
 · simpa [go_sem] using f3
set_option maxHeartbeats 4000000 in
theorem rt_0:Mak 130 #[.string ⟨#[]⟩] (rtagV none):=by
 intro w
 go_enter Tryz.func130,Tryz.ntmps130
 go_wp2_with fail;exact bodyPost_ret (v:=rtagV none) (by simp [results,Tryz.results130,go_sem]; try rfl) rfl ⟨rfl,by first | exact ((Since.refl w).alloc _) | exact ((Since.refl w).alloc _).alloc _⟩
set_option maxHeartbeats 4000000 in
theorem rt_short (s:ByteArray) (hp:0 < s.size) (_hm:s.size <= 1000000) (c t:Nat) (b:Bool) (hc:(s[0].toNat:Int) / 64 = (c:Int)) (ht:(s[0].toNat:Int) % 32 = (t:Int)) (h31:t < 31) (hb:((s[0].toNat:Int) / 32 % 2 == 1) = b):Mak 130 #[.string s] (rtagV (some (c,t,b,1))):=by
 intro w;have hne:=some_bytes_f s hp;have hl0:=s[0].toNat_lt
 go_enter Tryz.func130,Tryz.ntmps130
 go_wp2_with fail;exact bodyPost_ret (v:=rtagV (some (c,t,b,1))) (by simp [results,Tryz.results130,go_sem]; try rfl) rfl ⟨rfl,by first | exact ((Since.refl w).alloc _) | exact ((Since.refl w).alloc _).alloc _⟩
set_option maxHeartbeats 4000000 in
theorem rt_long (s:ByteArray) (hp:0 < s.size) (hm:s.size <= 1000000) (c:Nat) (b:Bool) (hc:(s[0].toNat:Int) / 64 = (c:Int)) (ht:(s[0].toNat:Int) % 32 = 31) (hb:((s[0].toNat:Int) / 32 % 2 == 1) = b) (V:Value) (hV:V = rtagV (match digR (s.data.toList.drop 1) with | none => none | some (t,k) => some (c,t,b,k + 1))):Mak 130 #[.string s] V:=by
 intro w;have hne:=some_bytes_f s hp;have hl0:=s[0].toNat_lt;have HV:=lH hV;clear hV
 go_enter Tryz.func130,Tryz.ntmps130
 go_wp2_with fail;go_loopw [6] (fun i wr => ∃ k T:Nat,i = .int .i64 (k:Int) /\ (k = 1 /\ T <= 0 ∨ k = 2 /\ T <= 127 ∨ k = 3 /\ T <= 16383 ∨ k = 4 /\ T <= 2097151) /\ Hid (digR (s.data.toList.drop 1) = digF (4 - k) T k (s.data.toList.drop k)) /\ Hid (cells4 wr w.heap.size (.int .i64 0) (.int .i64 0) (.bool false) (.int .i64 0)) /\ Hid (cells4 wr (w.heap.size + 1) (.int .i64 (c:Int)) (.int .i64 (T:Int)) (.bool b) (.int .i64 0)) /\ Hid (Since w wr)) (fun i _ => 4 - (intOf i).toNat)
 case atStart =>
   refine ⟨1,0,rfl,Or.inl ⟨rfl,Nat.le_refl _⟩,lH (digR_F _),lH ?_,lH ?_,lH (((Since.refl w).alloc _).alloc _)⟩
   · exact (cells4_new w _ _ _ _ _).below _ (Below.alloc (Below.refl _ _) (Nat.le_refl _) _) (by simp)
   · have h:=cells4_new (w.alloc (.cells #[.int .i64 0,.int .i64 0,.bool false,.int .i64 0] 126)) (.int .i64 (c:Int)) (.int .i64 0) (.bool b) (.int .i64 0) 126
     simpa using h
 case round =>
   obtain ⟨k,T,rfl,hk,HD,HR,HC,HS⟩:=hrel;obtain ⟨⟨r0,r1,r2,r3⟩,f0,f1,f2,f3⟩:=HR.out;obtain ⟨⟨q0,q1,q2,q3⟩,g0,g1,g2,g3⟩:=HC.out;have hne1:w.heap.size + 1 ≠ w.heap.size:=by omega
   by_cases hlt:k < s.size
   · by_cases h4:k = 4
     · have hV2:V = rtagV none:=by
         have h:=HD.out;rw [h4] at h;rw [HV.out,h]; rfl
       have h4i:((k:Nat):Int) = 4:=by omega
       have h4n:¬ (k:Int) < 4:=by omega
       subst hV2;clear hk h4;go_wp2_with fail;obtain ⟨s0,s1,s2,s3⟩:=set4 r0 r1 r2 r3 (.int .i64 0) (.int .i64 0) (.bool false) (.int .i64 0);exact bodyPost_ret (v:=rtagV none) (by simp [results,Tryz.results130,go_sem,s0,s1,s2,s3]; try rfl) rfl ⟨rfl,Since4 HS.out (Nat.le_refl _)⟩
     · have hd:=drop_cons s k hlt;have hx:=s[k].toNat_lt;have hk4:k < 4:=by omega
       have hk4i:(k:Int) < 4:=by omega
       have hki:(k:Int) < (s.size:Int):=by omega
       have hD:=HD.out;rw [hd,show 4 - k = (3 - k) + 1 from by omega] at hD;simp only [digF] at hD
       by_cases h128:s[k].toNat < 128
       · rw [if_pos h128] at hD;have hV2:V = rtagV (some (c,128 * T + s[k].toNat,b,k + 1)):=by rw [HV.out,hD]
         obtain ⟨N,hN⟩:∃ N,N = 128 * T + s[k].toNat:=⟨_,rfl⟩
         have hNi:128 * (T:Int) + (s[k].toNat:Int) % 128 = (N:Int):=by omega
         rw [<- hN] at hV2;have hTb:T <= 16383:=by omega
         subst hV2;clear hD hN hd;go_wp2_with fail
         go_region
         go_wp2_with fail;have r0:=(World.cell?_setCell_other wr ⟨w.heap.size + 1,1,none⟩ ⟨w.heap.size,0,none⟩ (.int .i64 (N:Int)) (by simp)).trans r0;have r1:=(World.cell?_setCell_other wr ⟨w.heap.size + 1,1,none⟩ ⟨w.heap.size,1,none⟩ (.int .i64 (N:Int)) (by simp)).trans r1;have r2:=(World.cell?_setCell_other wr ⟨w.heap.size + 1,1,none⟩ ⟨w.heap.size,2,none⟩ (.int .i64 (N:Int)) (by simp)).trans r2;have r3:=(World.cell?_setCell_other wr ⟨w.heap.size + 1,1,none⟩ ⟨w.heap.size,3,none⟩ (.int .i64 (N:Int)) (by simp)).trans r3;have H2:Since w (wr.setCell ⟨w.heap.size + 1,1,none⟩ (.int .i64 (N:Int))):=Below.setCell (p:=⟨w.heap.size + 1,1,none⟩) HS.out (Nat.le_succ _) _;obtain ⟨s0,s1,s2,s3⟩:=set4 r0 r1 r2 r3 (.int .i64 (c:Int)) (.int .i64 (N:Int)) (.bool b) (.int .i64 0);exact bodyPost_ret (v:=rtagV (some (c,N,b,k + 1))) (by simp [results,Tryz.results130,go_sem,s0,s1,s2,s3]; try rfl) rfl ⟨rfl,(Since4 H2 (Nat.le_refl _)).drew⟩
       · rw [if_neg h128] at hD;obtain ⟨N,hN⟩:∃ N,N = 128 * T + (s[k].toNat - 128):=⟨_,rfl⟩
         have hNi:128 * (T:Int) + (s[k].toNat:Int) % 128 = (N:Int):=by omega
         rw [<- hN] at hD;have hTb:T <= 16383:=by omega
         have hge:128 <= s[k].toNat:=by omega
         have hkn:k + 1 = 1 /\ N <= 0 ∨ k + 1 = 2 /\ N <= 127 ∨ k + 1 = 3 /\ N <= 16383 ∨ k + 1 = 4 /\ N <= 2097151:=by omega
         rw [show 3 - k = 4 - (k + 1) from by omega] at hD;have HD2:=lH hD;clear hD hN hd;go_wp2_with fail
         go_region
         go_wp2_with fail;go_roundw
         case rel => exact ⟨k + 1,N,by go_num,hkn,HD2,lH (cells4.drew (cells4.other HR.out hne1 1 _)),lH (cells4.drew (cells4.set1 HC.out _)),lH (Since.drew (Below.setCell (p:=⟨w.heap.size + 1,1,none⟩) HS.out (Nat.le_succ _) _))⟩
         case measure => simp [intOf]; omega
   · have hV2:V = rtagV none:=by
       have h:=HD.out;rw [show s.data.toList.drop k = [] from List.drop_eq_nil_of_le (by show s.size <= k; omega)] at h;rw [HV.out,h];rcases hk with ⟨rfl,_⟩ | ⟨rfl,_⟩ | ⟨rfl,_⟩ | ⟨rfl,_⟩ <;> rfl
     subst hV2;have hki:¬ (k:Int) < (s.size:Int):=by omega
     go_wp2_with fail;obtain ⟨s0,s1,s2,s3⟩:=set4 r0 r1 r2 r3 (.int .i64 0) (.int .i64 0) (.bool false) (.int .i64 0);exact bodyPost_ret (v:=rtagV none) (by simp [results,Tryz.results130,go_sem,s0,s1,s2,s3]; try rfl) rfl ⟨rfl,Since4 HS.out (Nat.le_refl _)⟩
theorem rt_mak (s:ByteArray) (hm:s.size <= 1000000) (V:Value) (hV:V = rtagV (rtagR s.data.toList)):Mak 130 #[.string s] V:=by
 by_cases h0:s.size = 0
 · obtain rfl:s = ⟨#[]⟩:=ba_ext (List.eq_nil_of_length_eq_zero h0);rw [hV];exact rt_0
 · have hp:0 < s.size:=by omega
   have hl:=s[0].toNat_lt;have e0:s.data.toList = s[0] :: s.data.toList.drop 1:=drop_cons s 0 hp;have hb:((s[0].toNat:Int) / 32 % 2 == 1) = decide (s[0].toNat / 32 % 2 = 1):=by
     by_cases h:s[0].toNat / 32 % 2 = 1
     · rw [decide_eq_true h,beq_iff_eq]; omega
     · rw [decide_eq_false h,beq_eq_false_iff_ne]; omega
   by_cases h:s[0].toNat % 32 < 31
   · have hV2:V = rtagV (some (s[0].toNat / 64,s[0].toNat % 32,decide (s[0].toNat / 32 % 2 = 1),1)):=by
       rw [hV,e0];simp only [rtagR,h,if_true]
     rw [hV2];exact rt_short s hp hm _ _ _ (by omega) (by omega) h hb
   · refine rt_long s hp hm (s[0].toNat / 64) _ (by omega) (by omega) hb V ?_;rw [hV,e0];simp only [rtagR,h,if_false];rfl
end RefHead
end Go.Proofs.YtpanhhjkecebkaaGreat
