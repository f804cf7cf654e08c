import Derived.Test.YtpanhhjkecebkaaGreatPt32
import Derived.Test.YtpanhhjkecebkaaGreatPt45
import Derived.Test.YtpanhhjkecebkaaGreatPt44
set_option maxRecDepth 100000
namespace Go.Proofs.YtpanhhjkecebkaaGreat
namespace Atm
open Tlv Tree Strs Att Setof
theorem len_prim (c t:Nat) (d:ByteArray) (nx:F):(F.prim c t d nx).enc.length <= 7 + d.size + nx.enc.length:=by
 have h1:=(Head.encL_len c t false d.size).1;have hd:d.data.toList.length = d.size:=rfl
 show (Head.encL c t false d.size ++ d.data.toList ++ nx.enc).length <= _
 rw [List.length_append,List.length_append];omega
theorem len_cons (c t:Nat) (ks nx:F):(F.cons c t ks nx).enc.length <= 7 + ks.enc.length + nx.enc.length:=by
 have h1:=(Head.encL_len c t true ks.enc.length).1
 show (Head.encL c t true ks.enc.length ++ ks.enc ++ nx.enc).length <= _
 rw [List.length_append,List.length_append];omega
def encA (p:A2):ByteArray:=bs (attF p).enc
open Classical in
noncomputable def decV (s:ByteArray):A2 × Int:=if h:∃ p,Ok1 p /\ encA p = s then (Classical.choose h,0) else ((0,⟨#[]⟩),5)
def catB (l:List ByteArray):ByteArray:=bs (l.map dl).flatten
def pcsA (s:ByteArray):List ByteArray:=(pcsV s).2.2
noncomputable def decL (s:ByteArray):List A2:=(pcsA s).map fun x => (decV x).1
noncomputable def unpV (s:ByteArray):List A2 × Int :=
 if (pcsV s).1 ≠ 0 ∨ risesB (pcsA s) = false ∨ (pcsA s).any (fun x => decide ((decV x).2 ≠ 0)) = true then ([],5) else
 if unpB (decL s) = true then (fldA (decL s),0) else ([],11)
end Atm
end Go.Proofs.YtpanhhjkecebkaaGreat
namespace Go.Proofs.YtpanhhjkecebkaaGreat
open Go.RowKit
namespace Atf
open Att Rw Tlv Tree Strs Atm
def u8:List Value:=Atm.under.map (Value.int .i64)
end Atf
namespace Atf
open Att Rw Atm Tlv Tree Strs
def DecT (s:ByteArray) (C P:Int) (N:List Nd):Prop:=∀ w,Calls Tryz.prog 59 #[.string s] w fun e w' => ∃ tv,e = .returned (.tuple #[tv,.agg #[.int .i64 C,.int .i64 P]]) /\ TreeS w' tv N /\ Since w w'
theorem at_data {W:World} {A:Option Addr} {n c:Nat} {N:List Nd} (h:TreeS W (.slice A n c) N) (k:Nat) (x:Nd) (hx:N[k]? = some x):∃ b o,A = some ⟨b,o,none⟩ /\ n = N.length /\ b < W.heap.size /\ W.cell? ⟨b,o + k * 5 + 3,none⟩ = some (.string x.d):=by
 obtain ⟨b,o,c',hv,h1,h2,h3,h4⟩:=h.form (by have:=(List.getElem?_eq_some_iff.1 hx).1; omega);obtain ⟨kv,-,-,-,m3,-,-⟩:=h4 k x hx;obtain ⟨e1,e2,-⟩:=Value.slice.inj hv;exact ⟨b,o,e1,e2,h3,m3⟩
structure KD (wr:World) (ba oa b o:Nat) (x:Int) (d:ByteArray):Prop where
 lt1:ba < wr.heap.size
 lt2:b < wr.heap.size
 c1:wr.cell? ⟨ba,oa + 8,none⟩ = some (.int .i64 x)
 c2:wr.cell? ⟨b,o + 15 + 3,none⟩ = some (.string d)
end Atf
namespace Atf
open Att Rw Atm Tlv Setof
theorem pcs_len (s:ByteArray):∀ (f p:Nat) (L:List ByteArray),pcsF s f p = .ok L -> L.length < f:=by
 intro f
 induction f with
 | zero => intro p L h; cases h
 | succ f ih =>
   intro p L h;unfold pcsF at h
   by_cases h0:s.size <= p
   · rw [if_pos h0] at h;cases h;exact Nat.zero_lt_succ _
   · rw [if_neg h0] at h;obtain ⟨⟨hh,k,x⟩,hq⟩:∃ y,y = Head.dec (s.extract p s.size).data.toList:=⟨_,rfl⟩
     rw [<- hq] at h;dsimp only at h
     by_cases hx:x ≠ 0
     · rw [if_pos hx] at h; cases h
     rw [if_neg hx] at h
     by_cases hf:s.size - p < k + hh.n
     · rw [if_pos hf] at h; cases h
     rw [if_neg hf] at h;cases hr:pcsF s f (p + (k + hh.n)) with
     | error y => rw [hr] at h; cases h
     | ok l =>
       rw [hr] at h;cases h;have:=ih _ _ hr;rw [List.length_cons];omega
theorem mem_cat (L:List ByteArray):∀ x ∈ L,x.size <= (L.map dl).flatten.length:=by
 induction L with
 | nil => intro x h; cases h
 | cons y l ih =>
   intro x h;rw [List.map_cons,List.flatten_cons,List.length_append];rcases List.mem_cons.1 h with rfl | h
   · show (dl x).length <= _; omega
   · have:=ih x h; omega
theorem pcs_small (s:ByteArray) (hs:s.size <= 65535) (p:Nat) (L:List ByteArray) (hv:pcsV s = (0,p,L)):L.length <= 65535 /\ ∀ x ∈ L,x.size <= 65535:=by
 cases hq:pcsF s (s.size + 1) 0 with
 | error y =>
   obtain ⟨c,q⟩:=y;have h9:=pcs_err _ _ _ _ _ hq;unfold pcsV at hv;rw [if_neg (by omega),hq] at hv;dsimp only at hv;exact absurd (Prod.mk.inj hv).1 h9
 | ok l =>
   have hv':=hv;unfold pcsV at hv';rw [if_neg (by omega),hq] at hv';dsimp only at hv';cases hv';have h1:=pcs_len _ _ _ _ hq;refine ⟨by omega,fun x hx => ?_⟩;have h2:=mem_cat L x hx;have h3:=pcs_flat s L hv hs ⟨L,hq⟩;rw [show L.map dl = L.map fun b => b.data.toList from rfl,h3] at h2;have h4:s.data.toList.length = s.size:=rfl;omega
end Atf
namespace Atf
open Att Rw Tlv Tree Strs Atm
end Atf
namespace Atf
open Att Rw Atm Tlv Tree Strs
structure Is4 (N:List Nd) (x1 x3:Nd):Prop where
 len:N.length = 4
 a1:N[1]? = some x1
 a3:N[3]? = some x3
end Atf
namespace Atf
open Att Rw Atm Tlv Tree Strs
def RDecT (s:ByteArray) (C P:Int) (N:List Nd):Prop:=∀ w,Calls Tryz.prog 63 #[.string s] w fun e w' => ∃ tv,e = .returned (.tuple #[tv,.agg #[.int .i64 C,.int .i64 P]]) /\ TreeS w' tv N /\ Since w w'
structure KE (wr:World) (ba oa m b o:Nat) (x:Int) (d:ByteArray):Prop where
 lt1:ba < wr.heap.size
 lt2:b < wr.heap.size
 c1:wr.cell? ⟨ba,oa + m,none⟩ = some (.int .i64 x)
 c2:wr.cell? ⟨b,o + 15 + 3,none⟩ = some (.string d)
end Atf
end Go.Proofs.YtpanhhjkecebkaaGreat
