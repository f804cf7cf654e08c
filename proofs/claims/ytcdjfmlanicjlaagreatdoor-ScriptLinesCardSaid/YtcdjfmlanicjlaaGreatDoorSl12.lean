import Derived.Test.YtcdjfmlanicjlaaGreatDoorSl11
set_option maxRecDepth 100000
namespace Go.Proofs.YtcdjfmlanicjlaaGreatDoor
open Go.RowKit
namespace Head
end Head
end Go.Proofs.YtcdjfmlanicjlaaGreatDoor
namespace Go.Proofs.YtcdjfmlanicjlaaGreatDoor
namespace Tlv
structure Nd where
 c:Int
 t:Int
 b:Bool
 d:ByteArray
 k:List Int
inductive F where
 | nil:F
 | prim (c t:Nat) (d:ByteArray) (nx:F):F
 | cons (c t:Nat) (ks nx:F):F
namespace F
def cnt:F -> Nat
 | nil => 0
 | prim _ _ _ nx => 1 + nx.cnt
 | cons _ _ ks nx => 1 + ks.cnt + nx.cnt
def app:F -> F -> F
 | nil,g => g
 | prim c t d nx,g => prim c t d (nx.app g)
 | cons c t ks nx,g => cons c t ks (nx.app g)
def tops:F -> Nat -> List Int
 | nil,_ => []
 | prim _ _ _ nx,i => (i:Int) :: nx.tops (i + 1)
 | cons _ _ ks nx,i => (i:Int) :: nx.tops (i + 1 + ks.cnt)
def flat:F -> Nat -> List Nd
 | nil,_ => []
 | prim c t d nx,i => ⟨c,t,false,d,[]⟩ :: nx.flat (i + 1)
 | cons c t ks nx,i => ⟨c,t,true,⟨#[]⟩,ks.tops (i + 1)⟩ :: (ks.flat (i + 1) ++ nx.flat (i + 1 + ks.cnt))
def enc:F -> List UInt8
 | nil => []
 | prim c t d nx => Head.encL c t false d.size ++ d.data.toList ++ nx.enc
 | cons c t ks nx => Head.encL c t true ks.enc.length ++ ks.enc ++ nx.enc
def spans:F -> Nat -> List (Nat × Nat)
 | nil,_ => []
 | prim c t d nx,p => (p,p + ((Head.encL c t false d.size).length + d.size)) :: nx.spans (p + ((Head.encL c t false d.size).length + d.size))
 | cons c t ks nx,p => (p,p + ((Head.encL c t true ks.enc.length).length + ks.enc.length)) :: (ks.spans (p + (Head.encL c t true ks.enc.length).length) ++ nx.spans (p + ((Head.encL c t true ks.enc.length).length + ks.enc.length)))
def deep:F -> Nat
 | nil => 0
 | prim _ _ _ nx => max 1 nx.deep
 | cons _ _ ks nx => max (ks.deep + 1) nx.deep
end F
def formB (R:Int -> ByteArray -> Bool) (h:Head.Hd) (d:ByteArray):Bool:=decide (h.c ≠ 0) || (if h.b then decide (h.t = 16) || decide (h.t = 17) else R (h.t:Int) d)
def look (R:Int -> ByteArray -> Bool) (s:ByteArray) (p e deep cnt:Nat):Except Nat (Head.Hd × Nat) :=
 match Head.dec (s.extract p e).data.toList with
 | (h,k,x) => if x ≠ 0 then .error x else if e - p < k + h.n then .error 5 else if 16 < deep then .error 6 else if 1000 <= cnt then .error 4
   else if formB R h (s.extract (p + k) (p + k + h.n)) then .ok (h,k) else .error 5
def dec (R:Int -> ByteArray -> Bool) (s:ByteArray):Nat -> Nat -> Nat -> Nat -> Nat -> Except (Nat × Nat) F
 | 0,p,_,_,_ => .error (5,p)
 | f + 1,p,e,deep,cnt => if e <= p then .ok .nil else
   match look R s p e deep cnt with
   | .error c => .error (c,p)
   | .ok (h,k) => if h.b then
       match dec R s f (p + k) (p + k + h.n) (deep + 1) (cnt + 1) with
       | .error x => .error x
       | .ok ks => match dec R s f (p + k + h.n) e deep (cnt + 1 + ks.cnt) with
         | .error x => .error x
         | .ok nx => .ok (.cons h.c h.t ks nx)
     else match dec R s f (p + k + h.n) e deep (cnt + 1) with
       | .error x => .error x
       | .ok nx => .ok (.prim h.c h.t (s.extract (p + k) (p + k + h.n)) nx)
structure LookOk (R:Int -> ByteArray -> Bool) (s:ByteArray) (p e deep cnt:Nat) (h:Head.Hd) (k:Nat):Prop where
 fit:k + h.n <= e - p
 pos:2 <= k
 k7:k <= 7
 c3:h.c <= 3
 tm:h.t <= 2097151
 nm:h.n <= 65535
 deep:deep <= 16
 cnt:cnt < 1000
 form:formB R h (s.extract (p + k) (p + k + h.n)) = true
 enc:Head.encL h.c h.t h.b h.n = (s.extract p e).data.toList.take k
 len:(Head.encL h.c h.t h.b h.n).length = k
 hd:Head.dec (s.extract p e).data.toList = (h,k,0)
def decA (R:Int -> ByteArray -> Bool) (s:ByteArray) (p e deep cnt:Nat):Except (Nat × Nat) F:=dec R s (e - p + 1) p e deep cnt
def one (R:Int -> ByteArray -> Bool) (s:ByteArray) (p e deep cnt:Nat):Except (Nat × Nat) (F × Nat) :=
 match look R s p e deep cnt with
 | .error c => .error (c,p)
 | .ok (h,k) => if h.b then
     match decA R s (p + k) (p + k + h.n) (deep + 1) (cnt + 1) with
     | .error x => .error x
     | .ok ks => .ok (.cons h.c h.t ks .nil,p + k + h.n)
   else .ok (.prim h.c h.t (s.extract (p + k) (p + k + h.n)) .nil,p + k + h.n)
def top (R:Int -> ByteArray -> Bool) (s:ByteArray):Except (Nat × Nat) F :=
 if s.size = 0 then .error (3,0) else if 65535 < s.size then .error (4,0) else
 match one R s 0 s.size 1 0 with
 | .error x => .error x
 | .ok (g,q) => if q < s.size then .error (5,q) else .ok g
end Tlv
end Go.Proofs.YtcdjfmlanicjlaaGreatDoor
namespace Go.Proofs.YtcdjfmlanicjlaaGreatDoor
namespace Tlv
def addK (ns:List Nd) (o:Nat) (ks:List Int):List Nd:=ns.modify o (fun x => { x with k:=x.k ++ ks })
def fill:List Nd -> List Nat -> List F -> List Nd
 | ns,o :: os,f :: fs => fill (addK ns o (f.tops ns.length) ++ f.flat ns.length) os fs
 | ns,_,_ => ns
def sfill:Nat -> List Nat -> List F -> List (Nat × Nat)
 | p,e :: es,f :: fs => f.spans p ++ sfill e es fs
 | _,_,_ => []
def rest (R:Int -> ByteArray -> Bool) (s:ByteArray):List Nat -> Nat -> Nat -> Except (Nat × Nat) (List F)
 | [],p,_ => if p < s.size then .error (5,p) else .ok []
 | e :: es,p,cnt => match decA R s p e (es.length + 2) cnt with
   | .error x => .error x
   | .ok f => match rest R s es e (cnt + f.cnt) with
     | .error x => .error x
     | .ok fs => .ok (f :: fs)
def Good (R:Int -> ByteArray -> Bool) (s:ByteArray) (tgt:Except (Nat × Nat) F) (ns:List Nd) (sp:List (Nat × Nat)) (os es:List Nat) (p:Nat):Prop :=
 match tgt with
 | .error x => rest R s es p ns.length = .error x
 | .ok g => ∃ fs,rest R s es p ns.length = .ok fs /\ fill ns os fs = g.flat 0 /\ sp ++ sfill p es fs = g.spans 0
end Tlv
end Go.Proofs.YtcdjfmlanicjlaaGreatDoor
namespace Go.Proofs.YtcdjfmlanicjlaaGreatDoor
namespace Tree
open Tlv
def oneB (R:Int -> ByteArray -> Bool) (x:Nd):Bool :=
 decide (0 <= x.c) && decide (x.c <= 3) && decide (0 <= x.t) && decide (x.t <= 2097151) &&
 (if x.b then decide (x.d.size = 0) && (decide (x.c ≠ 0) || decide (x.t = 16) || decide (x.t = 17)) else decide (x.k.length = 0) && (decide (x.c ≠ 0) || R x.t x.d))
def kidsB (b:Nat -> Option Nat):List Int -> Nat -> Option Nat
 | [],nx => some nx
 | a :: l,nx => if a = (nx:Int) then (match b nx with | none => none | some e => kidsB b l e) else none
def behB (R:Int -> ByteArray -> Bool) (N:List Nd):Nat -> Nat -> Option Nat
 | 0,_ => none
 | f + 1,i => match N[i]? with
   | none => none
   | some x => if oneB R x then kidsB (behB R N f) x.k (i + 1) else none
def okF (R:Int -> ByteArray -> Bool):F -> Prop
 | .nil => True
 | .prim c t d nx => c <= 3 /\ t <= 2097151 /\ (c ≠ 0 ∨ R (t:Int) d = true) /\ okF R nx
 | .cons c t ks nx => c <= 3 /\ t <= 2097151 /\ (c ≠ 0 ∨ t = 16 ∨ t = 17) /\ okF R ks /\ okF R nx
def At (N:List Nd) (i:Nat) (l:List Nd):Prop:=∀ (j:Nat) (x:Nd),l[j]? = some x -> N[i + j]? = some x
def single:F -> Prop
 | .nil => False
 | .prim _ _ _ nx => nx = .nil
 | .cons _ _ _ nx => nx = .nil
structure IsT (R:Int -> ByteArray -> Bool) (N:List Nd) (g:F):Prop where
 ok:okF R g
 one:single g
 flat:N = g.flat 0
 deep:g.deep <= 16
 len:N.length <= 1000
end Tree
end Go.Proofs.YtcdjfmlanicjlaaGreatDoor
namespace Go.Proofs.YtcdjfmlanicjlaaGreatDoor
namespace Tree
open Tlv
def bodies:F -> List (List UInt8)
 | .nil => []
 | .prim _ _ d nx => d.data.toList :: bodies nx
 | .cons _ _ ks nx => ks.enc :: (bodies ks ++ bodies nx)
def el (x:Nd) (b:List UInt8):List UInt8:=Head.encL x.c.toNat x.t.toNat x.b b.length ++ b
def elAt (N:List Nd) (Bs:List (List UInt8)) (a:Nat):List UInt8:=match N[a]?,Bs[a]? with
 | some x,some b => el x b
 | _,_ => []
def elsAt (N:List Nd) (Bs:List (List UInt8)) (l:List Int):List UInt8:=l.flatMap (fun a => elAt N Bs a.toNat)
def hdd (p:Nd × List UInt8):List UInt8:=Head.encL p.1.c.toNat p.1.t.toNat p.1.b p.2.length ++ p.1.d.data.toList
structure Wr (N:List Nd) (Bs:List (List UInt8)) (S:List UInt8):Prop where
 pos:0 < N.length
 len:Bs.length = N.length
 bnd:∀ b ∈ Bs,b.length <= S.length
 nd:∀ x ∈ N,∃ c t:Nat,x.c = (c:Int) /\ x.t = (t:Int) /\ c <= 3 /\ t <= 2097151
 body:∀ (j:Nat) (x:Nd),N[j]? = some x -> Bs[j]? = some (x.d.data.toList ++ elsAt N Bs x.k) /\ ∀ a ∈ x.k,(j:Int) < a /\ a < (N.length:Int)
 zip:(N.zip Bs).flatMap hdd = S
 root:elAt N Bs 0 = S
end Tree
end Go.Proofs.YtcdjfmlanicjlaaGreatDoor
namespace Go.Proofs.YtcdjfmlanicjlaaGreatDoor
namespace Tree
open Tlv
def mx:List Nat -> Nat
 | [] => 0
 | a :: l => max a (mx l)
def levels:F -> Nat -> List Nat
 | .nil,_ => []
 | .prim _ _ _ nx,l => l :: levels nx l
 | .cons _ _ ks nx,l => l :: (levels ks (l + 1) ++ levels nx l)
def hts:F -> List Nat
 | .nil => []
 | .prim _ _ _ nx => 1 :: hts nx
 | .cons _ _ ks nx => (ks.deep + 1) :: (hts ks ++ hts nx)
structure Lev (N:List Nd) (Lv:List Nat) (m:Nat):Prop where
 len:Lv.length = N.length
 pos:0 < N.length
 root:Lv[0]? = some 1
 kid:∀ (j:Nat) (x:Nd),N[j]? = some x -> ∃ v,Lv[j]? = some (v + 1) /\ ∀ a ∈ x.k,Lv[a.toNat]? = some (v + 2) /\ (j:Int) < a /\ a < (N.length:Int)
 par:∀ j,0 < j -> j < N.length -> ∃ p x,p < j /\ N[p]? = some x /\ (j:Int) ∈ x.k
 top:mx Lv = m
 le:∀ v ∈ Lv,v <= m
structure Hgt (N:List Nd) (H:List Nat) (m:Nat):Prop where
 pos:0 < N.length
 at_:∀ (j:Nat) (x:Nd),N[j]? = some x -> H.getD j 0 = mx (x.k.map (fun a => H.getD a.toNat 0)) + 1 /\ H.getD j 0 <= 16 /\ ∀ a ∈ x.k,(j:Int) < a /\ a < (N.length:Int)
 top:H.getD 0 0 = m
end Tree
end Go.Proofs.YtcdjfmlanicjlaaGreatDoor
namespace Go.Proofs.YtcdjfmlanicjlaaGreatDoor
open Go.RowKit
namespace Head
end Head
end Go.Proofs.YtcdjfmlanicjlaaGreatDoor
