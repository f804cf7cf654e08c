import Derived.Test.YtpanhhjkecebkaaPb40
set_option maxRecDepth 100000
namespace Go.Proofs.Ytpanhhjkecebkaa
namespace Atm
open Tlv Tree Strs
abbrev AP2:=Int × ByteArray
def under:List Int:=[1,3,6,1,4,1,99999,7]
def arcsA (t:Int):List Int:=under ++ [t]
def nmA (t:Int):ByteArray:=bs (Oid.enc (arcsA t))
def attF (p:AP2):F:=.cons 0 16 (.prim 0 6 (nmA p.1) (.cons 0 17 (.prim 0 4 p.2 .nil) .nil)) .nil
def attN (p:AP2):List Nd:=(attF p).flat 0
end Atm
end Go.Proofs.Ytpanhhjkecebkaa
namespace Go.Proofs.Ytpanhhjkecebkaa
namespace Atm
open Att
def Ok1 (p:A2):Prop:=1 <= p.1 /\ p.1 <= 65535 /\ p.2.size <= 255
def Up (L:List A2):Prop:=L.Pairwise (fun p q => p.1 < q.1)
def withA (L:List A2) (a:A2):List A2:=L.take (L.findIdx fun p => decide (a.1 < p.1)) ++ a :: L.drop (L.findIdx fun p => decide (a.1 < p.1))
def fldA (ps:List A2):List A2:=ps.foldl withA []
def tags (ps:List A2):List Int:=ps.map Prod.fst
def unpB (ps:List A2):Bool:=decide (tags ps).Nodup && decide (ps.length <= 32)
end Atm
end Go.Proofs.Ytpanhhjkecebkaa
namespace Go.Proofs.Ytpanhhjkecebkaa
open Go.RowKit
namespace Atf
open Att Atm Tlv
def tgN (N:List Nd) (xs:List Int):Nat -> Bool
 | 0 => true
 | k+1 => tgN N xs k && (match N[k]?,xs[k]? with | some n,some x => (n.c == 0) && (n.t == x) | _,_ => true)
end Atf
end Go.Proofs.Ytpanhhjkecebkaa
namespace Go.Proofs.Ytpanhhjkecebkaa
namespace Tlv
open F
end Tlv
end Go.Proofs.Ytpanhhjkecebkaa
namespace Go.Proofs.Ytpanhhjkecebkaa
namespace Tlv
open Tree
theorem pcs_join (s:ByteArray):∀ (f p:Nat) (L:List ByteArray),p <= s.size -> pcsF s f p = .ok L -> (L.map fun b => b.data.toList).flatten = (s.extract p s.size).data.toList:=by
 intro f
 induction f with
 | zero => intro p L _ h; cases h
 | succ f ih =>
   intro p L hp h
   unfold pcsF at h
   by_cases h0:s.size <= p
   · rw [if_pos h0] at h
     cases h
     have h9:=ext_len s p s.size (Nat.le_refl _)
     symm
     exact List.eq_nil_of_length_eq_zero (by omega)
   · rw [if_neg h0] at h
     obtain ⟨⟨hh,k,x⟩,hq⟩:∃ y,y = Head.dec (s.extract p s.size).data.toList:=⟨_,rfl⟩
     rw [<- hq] at h
     dsimp only at h
     by_cases hx:x ≠ 0
     · rw [if_pos hx] at h; cases h
     rw [if_neg hx] at h
     by_cases hf:s.size - p < k + hh.n
     · rw [if_pos hf] at h; cases h
     rw [if_neg hf] at h
     cases hr:pcsF s f (p + (k + hh.n)) with
     | error y => rw [hr] at h; cases h
     | ok l =>
       rw [hr] at h
       cases h
       rw [List.map_cons,List.flatten_cons,ih _ _ (by omega) hr,<- ext_app s p (p + (k + hh.n)) s.size (by omega) (by omega)]
theorem pcs_err (s:ByteArray):∀ (f p c q:Nat),pcsF s f p = .error (c,q) -> c ≠ 0:=by
 intro f
 induction f with
 | zero => intro p c q h; cases h; decide
 | succ f ih =>
   intro p c q h
   unfold pcsF at h
   by_cases h0:s.size <= p
   · rw [if_pos h0] at h; cases h
   · rw [if_neg h0] at h
     obtain ⟨⟨hh,k,x⟩,hq⟩:∃ y,y = Head.dec (s.extract p s.size).data.toList:=⟨_,rfl⟩
     rw [<- hq] at h
     dsimp only at h
     by_cases hx:x ≠ 0
     · rw [if_pos hx] at h; cases h; exact hx
     rw [if_neg hx] at h
     by_cases hf:s.size - p < k + hh.n
     · rw [if_pos hf] at h; cases h; decide
     rw [if_neg hf] at h
     cases hr:pcsF s f (p + (k + hh.n)) with
     | error y => rw [hr] at h; cases h; exact ih _ _ _ hr
     | ok l => rw [hr] at h; cases h
theorem enc_one {g:F} (hs:single g) (hok:okF Strs.rightB g) (hl:g.enc.length <= 65535):∃ c t b n B,c <= 3 /\ t <= 2097151 /\ n <= 65535 /\ g.enc = Head.encL c t b n ++ B /\ B.length = n:=by
 cases g with
 | nil => exact absurd hs (by intro h; exact h)
 | prim c t d nx =>
   cases (show nx = .nil from hs)
   obtain ⟨a1,a2,-,-⟩:=hok
   have e:(F.prim c t d .nil).enc = Head.encL c t false d.size ++ d.data.toList:=by show Head.encL c t false d.size ++ d.data.toList ++ [] = _; rw [List.append_nil]
   have hd:d.data.toList.length = d.size:=rfl
   rw [e,List.length_append] at hl
   exact ⟨c,t,false,d.size,d.data.toList,a1,a2,by omega,e,rfl⟩
 | cons c t ks nx =>
   cases (show nx = .nil from hs)
   obtain ⟨a1,a2,-,-,-⟩:=hok
   have e:(F.cons c t ks .nil).enc = Head.encL c t true ks.enc.length ++ ks.enc:=by show Head.encL c t true ks.enc.length ++ ks.enc ++ [] = _; rw [List.append_nil]
   rw [e,List.length_append] at hl
   exact ⟨c,t,true,ks.enc.length,ks.enc,a1,a2,by omega,e,rfl⟩
theorem pcs_build (s:ByteArray):∀ (gs:List F) (f p:Nat),(∀ g ∈ gs,single g /\ okF Strs.rightB g /\ g.enc.length <= 65535) -> (s.extract p s.size).data.toList = (gs.map F.enc).flatten -> p <= s.size -> gs.length < f -> pcsF s f p = .ok (gs.map fun g => bs g.enc):=by
 intro gs
 induction gs with
 | nil =>
   intro f p _ h hp hf
   obtain ⟨f,rfl⟩:∃ f',f = f' + 1:=⟨f - 1,by omega⟩
   have h9:=ext_len s p s.size (Nat.le_refl _)
   rw [h] at h9
   unfold pcsF
   rw [if_pos (by simp at h9; omega)]
   rfl
 | cons g l ih =>
   intro f p hg h hp hf
   obtain ⟨f,rfl⟩:∃ f',f = f' + 1:=⟨f - 1,by omega⟩
   obtain ⟨h1,h2,h3⟩:=hg g (List.mem_cons_self ..)
   obtain ⟨c,t,b,n,B,b1,b2,b3,b4,b5⟩:=enc_one h1 h2 h3
   have h9:=ext_len s p s.size (Nat.le_refl _)
   rw [h,List.map_cons,List.flatten_cons,List.length_append] at h9
   have hlen:g.enc.length = (Head.encL c t b n).length + n:=by rw [b4,List.length_append,b5]
   have h2e:=encL_two c t b n
   have hx:(s.extract p (p + g.enc.length)).data.toList = g.enc /\ (s.extract (p + g.enc.length) s.size).data.toList = (l.map F.enc).flatten:=by
     have h8:=ext_app s p (p + g.enc.length) s.size (by omega) (by omega)
     rw [h,List.map_cons,List.flatten_cons] at h8
     exact List.append_inj h8.symm (by rw [ext_len s p _ (by omega)]; omega)
   have hd:Head.dec (s.extract p s.size).data.toList = (⟨c,t,b,n⟩,(Head.encL c t b n).length,0):=by
     rw [h,List.map_cons,List.flatten_cons,b4,List.append_assoc]
     exact Head.dec_enc c t n b b1 b2 b3 _
   have hl:=ih f (p + g.enc.length) (fun g' hg' => hg g' (List.mem_cons_of_mem _ hg')) hx.2 (by omega) (by rw [List.length_cons] at hf; omega)
   unfold pcsF
   rw [if_neg (by omega),hd]
   dsimp only
   rw [if_neg (by decide),if_neg (by omega),<- hlen,hl]
   dsimp only
   rw [List.map_cons,show s.extract p (p + g.enc.length) = bs g.enc from ba_ext hx.1]
theorem pcs_all (gs:List F) (hg:∀ g ∈ gs,single g /\ okF Strs.rightB g /\ g.enc.length <= 65535) (hl:(gs.map F.enc).flatten.length <= 65535):pcsV (bs (gs.map F.enc).flatten) = (0,0,gs.map fun g => bs g.enc):=by
 have hx:(bs (gs.map F.enc).flatten).extract 0 (bs (gs.map F.enc).flatten).size = bs (gs.map F.enc).flatten:=by simp
 have hn:∀ hs:List F,(∀ g ∈ hs,single g /\ okF Strs.rightB g /\ g.enc.length <= 65535) -> hs.length <= (hs.map F.enc).flatten.length:=by
   intro hs
   induction hs with
   | nil => intro _; exact Nat.le_refl _
   | cons g l ih =>
     intro h
     rw [List.map_cons,List.flatten_cons,List.length_append,List.length_cons]
     have:=enc_two (h g (List.mem_cons_self ..)).1
     have:=ih fun g' hg' => h g' (List.mem_cons_of_mem _ hg')
     omega
 have h1:=hn gs hg
 have hz:(bs (gs.map F.enc).flatten).size = (gs.map F.enc).flatten.length:=size_bs _
 unfold pcsV
 rw [if_neg (by omega),pcs_build _ gs _ 0 hg (by rw [hx]; rfl) (Nat.zero_le _) (by omega)]
theorem pcs_flat (s:ByteArray) (L:List ByteArray) (h:pcsV s = (0,0,L)) (hL:s.size <= 65535):(∃ l,pcsF s (s.size + 1) 0 = .ok l) -> (L.map fun b => b.data.toList).flatten = s.data.toList:=by
 rintro ⟨l,hl⟩
 unfold pcsV at h
 rw [if_neg (by omega),hl] at h
 dsimp only at h
 cases h
 have hx:s.extract 0 s.size = s:=by simp
 rw [pcs_join s _ _ _ (Nat.zero_le _) hl,hx]
end Tlv
end Go.Proofs.Ytpanhhjkecebkaa
