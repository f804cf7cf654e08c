import Derived.Test.YtpanhhjkecebkaaGreatPt57
set_option maxRecDepth 100000
namespace Go.Proofs.YtpanhhjkecebkaaGreat
open Go.RowKit
namespace Pk
open Tlv Tree Strs Rw
def DecR (s:ByteArray) (R:List Int × List Int × ByteArray × ByteArray × Int):Prop:=DecI 30 s R.1 R.2.1 R.2.2.1 R.2.2.2.1 R.2.2.2.2
theorem root_kids {N:List Nd} {c t:Nat} {ks:F} (h:IsT rightB N (.cons c t ks .nil)):At N 1 (ks.flat 1) /\ okF rightB ks /\ ks.deep <= 15:=by
 refine ⟨?_,h.ok.2.2.2.1, ?_⟩
 · have h9:At N 0 ((⟨c,t,true,⟨#[]⟩,ks.tops 1⟩:Nd) :: (ks.flat 1 ++ [])):=fun j x hx => by rw [Nat.zero_add,h.flat]; exact hx
   rw [List.append_nil] at h9;exact At.tail h9
 · have h9:max (ks.deep + 1) 0 <= 16:=h.deep;omega
theorem sub_is {N:List Nd} {g p:F} {a:Nat} {x:Nd} (hI:IsT rightB N g) (h:InT N p a x) (hd:p.deep <= 16):subV N (a:Int) = p.flat 0:=by
 have hb:=beh_single h.one h.okp h.own hd;have hle:=beh_le hb;unfold subV;rw [if_pos ⟨is_right hI,by omega,by omega⟩,Int.toNat_natCast,hb];exact sub_flat h.own
theorem catB_parts (p:F):Atm.catB ((parts (kidF p)).map fun q => bs q.enc) = bs (kidF p).enc:=by
 have h:=cat_is (parts (kidF p));rw [<- join_enc,join_parts] at h;exact h
theorem refD3 (s:ByteArray) (hs:s.size <= 1000) {c t:Nat} {ks q0 q1 q2 qa qb:F} (ht:top rightB s = .ok (.cons c t ks .nil)) (hp:parts ks = [q0,q1,q2]) (hq:parts (kidF q1) = [qa,qb]):DecR s (rR s (Oid.decL (dat qa).data.toList) (Oid.decL (dat qb).data.toList) (dat q2) ⟨#[]⟩):=by
 obtain ⟨hI,hsm,hl,-⟩:=top_small (by omega) ht;have d1:RDecT s 0 0 ((F.cons c t ks .nil).flat 0):=fun w => rdec_n s 0 0 _ _ (show topV s = (0,0,(F.cons c t ks .nil).flat 0,(F.cons c t ks .nil).spans 0) by unfold topV; rw [ht]) w
 obtain ⟨hA,hok,-⟩:=root_kids hI;obtain ⟨a1,x1,hj1,i1,-⟩:=part_in hok hA (show (parts ks)[1]? = some q1 by rw [hp]; rfl);obtain ⟨a2,x2,hj2,i2,-⟩:=part_in hok hA (show (parts ks)[2]? = some q2 by rw [hp]; rfl);obtain ⟨ja,ya,hja,iA,-⟩:=part_in i1.ok i1.in_ (show (parts (kidF q1))[0]? = some qa by rw [hq]; rfl);obtain ⟨jb,yb,hjb,iB,-⟩:=part_in i1.ok i1.in_ (show (parts (kidF q1))[1]? = some qb by rw [hq]; rfl);have hsz:∀ {a:Nat} {x:Nd},((F.cons c t ks .nil).flat 0)[a]? = some x -> x.d.size <= 1000:=fun h => by
   have:=size_le _ 0 _ (List.mem_of_getElem? h);omega
 have h3:(ks.tops 1).length = 3:=by rw [<- Tree.parts_len ks 1,hp]; rfl
 have h2:x1.k.length = 2:=by rw [i1.k,<- Tree.parts_len _ (a1 + 1),hq]; rfl
 have zA:=hsz iA.at_;have zB:=hsz iB.at_;have c5:=rpencode_rd (Oid.decL ya.d.data.toList) (Oid.decL yb.d.data.toList) x2.d ⟨#[]⟩ (hsz i2.at_) (by decide);unfold pencW at c5;have:=rpdec_4 s 0 0 rfl _ d1 ⟨c,t,true,⟨#[]⟩,ks.tops 1⟩ rfl h3 a1 a2 hj1 hj2 x1 x2 i1.at_ i2.at_ h2 ja jb (by rw [i1.k]; exact hja) (by rw [i1.k]; exact hjb) ya yb iA.at_ iB.at_ _ _ _ _ (Oid.rdecode_mk ya.d (by omega) _ _ rfl rfl) (Oid.rdecode_mk yb.d (by omega) _ _ rfl rfl) _ _ c5 _ (hE_of s _ _ _ _);rw [iA.d,iB.d,i2.d] at this;exact this
theorem refD4 (s:ByteArray) (hs:s.size <= 1000) {c t:Nat} {ks q0 q1 q2 q3 qa qb:F} (ht:top rightB s = .ok (.cons c t ks .nil)) (hp:parts ks = [q0,q1,q2,q3]) (hq:parts (kidF q1) = [qa,qb]):(kidF q3).enc.length <= 1000 /\ DecR s (rR s (Oid.decL (dat qa).data.toList) (Oid.decL (dat qb).data.toList) (dat q2) (Atm.catB ((parts (kidF q3)).map fun q => bs q.enc))):=by
 obtain ⟨hI,hsm,hl,-⟩:=top_small (by omega) ht;have d1:RDecT s 0 0 ((F.cons c t ks .nil).flat 0):=fun w => rdec_n s 0 0 _ _ (show topV s = (0,0,(F.cons c t ks .nil).flat 0,(F.cons c t ks .nil).spans 0) by unfold topV; rw [ht]) w
 obtain ⟨hA,hok,hdp⟩:=root_kids hI;obtain ⟨a1,x1,hj1,i1,-⟩:=part_in hok hA (show (parts ks)[1]? = some q1 by rw [hp]; rfl);obtain ⟨a2,x2,hj2,i2,-⟩:=part_in hok hA (show (parts ks)[2]? = some q2 by rw [hp]; rfl);obtain ⟨a3,x3,hj3,i3,hd3⟩:=part_in hok hA (show (parts ks)[3]? = some q3 by rw [hp]; rfl);obtain ⟨ja,ya,hja,iA,-⟩:=part_in i1.ok i1.in_ (show (parts (kidF q1))[0]? = some qa by rw [hq]; rfl);obtain ⟨jb,yb,hjb,iB,-⟩:=part_in i1.ok i1.in_ (show (parts (kidF q1))[1]? = some qb by rw [hq]; rfl);have hsz:∀ {a:Nat} {x:Nd},((F.cons c t ks .nil).flat 0)[a]? = some x -> x.d.size <= 1000:=fun h => by
   have:=size_le _ 0 _ (List.mem_of_getElem? h);omega
 have h3:(ks.tops 1).length = 4:=by rw [<- Tree.parts_len ks 1,hp]; rfl
 have h2:x1.k.length = 2:=by rw [i1.k,<- Tree.parts_len _ (a1 + 1),hq]; rfl
 have zA:=hsz iA.at_;have zB:=hsz iB.at_;have e1:=(kid_enc (F.cons c t ks .nil)).1;have e2:=(part_cnt ks q3 (by rw [hp]; simp)).2;have e3:=kid_enc q3;have e4:(kidF q3).enc.length <= 1000:=by
   have:(kidF (F.cons c t ks .nil)).enc.length = ks.enc.length:=rfl;omega
 have e5:=cnt_le (kidF q3);have e6:=Pk.parts_len (kidF q3);have e7:(Atm.catB ((parts (kidF q3)).map fun q => bs q.enc)).size = (kidF q3).enc.length:=by rw [catB_parts,size_bs]
 have e8:x3.k.length = (parts (kidF q3)).length:=by rw [i3.k,<- Tree.parts_len _ (a3 + 1)]
 refine ⟨e4, ?_⟩;obtain ⟨es,hes⟩:∃ es,es = (parts (kidF q3)).map fun q => bs q.enc:=⟨_,rfl⟩
 obtain ⟨xs,hxs⟩:∃ xs,xs = Oid.decL ya.d.data.toList:=⟨_,rfl⟩
 obtain ⟨ps,hps⟩:∃ ps,ps = Oid.decL yb.d.data.toList:=⟨_,rfl⟩
 rw [<- hes] at e7;have c5:=rpencode_rd xs ps x2.d (Atm.catB es) (hsz i2.at_) (by omega);unfold pencW at c5;have c3:=Oid.rdecode_mk ya.d (by omega) xs _ hxs rfl;have c4:=Oid.rdecode_mk yb.d (by omega) ps _ hps rfl;have cS:∀ (n:Nat) (jn:Int) (e:ByteArray),x3.k[n]? = some jn -> es[n]? = some e -> ∃ G,∃ E':Int,MkE 71 ((F.cons c t ks .nil).flat 0) (fun v => #[v,.int .i64 jn]) G /\ RdT 58 G (fun v => #[v]) (.tuple #[.string e,.int .i64 E']):=by
   intro n jn e hjn he;rw [i3.k] at hjn;rw [hes,List.getElem?_map] at he;cases hpn:(parts (kidF q3))[n]? with
   | none => rw [hpn] at he; cases he
   | some p =>
     rw [hpn] at he;cases he;obtain ⟨a,x,ha,ip,hd⟩:=part_in i3.ok i3.in_ hpn;rw [hjn] at ha;cases ha;have f1:=part_cnt (kidF q3) p (List.mem_of_getElem? hpn);have hIp:IsT rightB (p.flat 0) p:=⟨ip.okp,ip.one,rfl,by omega,by rw [F.flat_len]; omega⟩
     have h9:=rsub_mk _ hsm (a:Int);rw [sub_is hI ip (by omega)] at h9;exact ⟨_,_,h9,renc_part hIp (by omega)⟩
 have:=rpdec_5 s 0 0 rfl _ d1 ⟨c,t,true,⟨#[]⟩,ks.tops 1⟩ rfl h3 a1 a2 a3 hj1 hj2 hj3 x1 x2 x3 i1.at_ i2.at_ i3.at_ h2 ja jb (by rw [i1.k]; exact hja) (by rw [i1.k]; exact hjb) ya yb iA.at_ iB.at_ xs ps _ _ c3 c4
   es (by rw [hes,List.length_map,e8]) (by omega) (by omega) cS _ _ c5 _ (hE_of s _ _ _ _)
 rw [hxs,hps,iA.d,iB.d,i2.d,hes] at this;exact this
theorem three {α:Type} {l:List α} (h:l.length = 3):∃ a b c,l = [a,b,c]:=by
 match l,h with
 | [a,b,c],_ => exact ⟨a,b,c,rfl⟩
theorem four {α:Type} {l:List α} (h:l.length = 4):∃ a b c d,l = [a,b,c,d]:=by
 match l,h with
 | [a,b,c,d],_ => exact ⟨a,b,c,d,rfl⟩
theorem two {α:Type} {l:List α} (h:l.length = 2):∃ a b,l = [a,b]:=by
 match l,h with
 | [a,b],_ => exact ⟨a,b,rfl⟩
theorem refNot (s:ByteArray) (hs:s.size <= 1000) (g:F) (ht:top rightB s = .ok g) (hn:¬ IsPk g):DecI 30 s [] [] ⟨#[]⟩ ⟨#[]⟩ 5:=by
 obtain ⟨hI,hsm,hl,-⟩:=top_small (by omega) ht;have d1:RDecT s 0 0 (g.flat 0):=fun w => rdec_n s 0 0 _ _ (show topV s = (0,0,g.flat 0,g.spans 0) by unfold topV; rw [ht]) w
 cases g with
 | nil => exact absurd hI.one (by intro h; exact h)
 | prim c t d nx =>
   cases (show nx = .nil from hI.one);exact rpdec_2 s 0 0 rfl _ d1 ⟨c,t,false,d,[]⟩ rfl (by show (0:Nat) ≠ 3; omega) (by show (0:Nat) ≠ 4; omega)
 | cons c t ks nx =>
   cases (show nx = .nil from hI.one);have hk:(ks.tops 1).length = (parts ks).length:=(Tree.parts_len ks 1).symm;obtain ⟨hA,hok,-⟩:=root_kids hI
   by_cases h3:(parts ks).length = 3
   · obtain ⟨q0,q1,q2,hp⟩:=three h3
     by_cases h2:(parts (kidF q1)).length = 2
     · obtain ⟨qa,qb,hq⟩:=two h2;have h9:=refD3 s hs ht hp hq;unfold rR at h9;rw [if_neg fun h => hn (pk_sound (by omega) (by decide) ht h)] at h9;exact h9
     · obtain ⟨a1,x1,hj1,i1,-⟩:=part_in hok hA (show (parts ks)[1]? = some q1 by rw [hp]; rfl);exact rpdec_3_3 s 0 0 rfl _ d1 ⟨c,t,true,⟨#[]⟩,ks.tops 1⟩ rfl (by show (ks.tops 1).length = 3; omega) a1 hj1 x1 i1.at_ (by rw [i1.k,<- Tree.parts_len _ (a1 + 1)]; exact h2)
   · by_cases h4:(parts ks).length = 4
     · obtain ⟨q0,q1,q2,q3,hp⟩:=four h4
       by_cases h2:(parts (kidF q1)).length = 2
       · obtain ⟨qa,qb,hq⟩:=two h2;obtain ⟨h8,h9⟩:=refD4 s hs ht hp hq;unfold rR at h9;rw [if_neg fun h => hn (pk_sound (by omega) (by rw [catB_parts,size_bs]; omega) ht h)] at h9;exact h9
       · obtain ⟨a1,x1,hj1,i1,-⟩:=part_in hok hA (show (parts ks)[1]? = some q1 by rw [hp]; rfl);exact rpdec_3_4 s 0 0 rfl _ d1 ⟨c,t,true,⟨#[]⟩,ks.tops 1⟩ rfl (by show (ks.tops 1).length = 4; omega) a1 hj1 x1 i1.at_ (by rw [i1.k,<- Tree.parts_len _ (a1 + 1)]; exact h2)
     · exact rpdec_2 s 0 0 rfl _ d1 ⟨c,t,true,⟨#[]⟩,ks.tops 1⟩ rfl (by show (ks.tops 1).length ≠ 3; omega) (by show (ks.tops 1).length ≠ 4; omega)
theorem dec_both (s:ByteArray) (hs:s.size <= 1000):∃ ys qs k2 a2,∃ C:Int,DecI 29 s ys qs k2 a2 C /\ DecI 30 s ys qs k2 a2 C:=by
 cases ht:top rightB s with
 | error e =>
   obtain ⟨c,p⟩:=e;have hc:=(top_err_ok ht).1;exact ⟨_,_,_,_,_,pdecode_err s (by omega) c p ht,rpdec_1 s (c:Int) (p:Int) (bne_iff_ne.2 (by omega)) [] (fun w => rdec_n s c p _ _ (show topV s = (c,p,[],[]) by unfold topV; rw [ht]) w)⟩
 | ok g =>
   by_cases hg:IsPk g
   · obtain ⟨nm,pt,pb,key,gs,rfl,hP⟩:=hg;have hb:=isb_of (by omega) hP ht;have hv:pencV (Oid.decL nm.data.toList) (Oid.decL pb.data.toList) key (catF gs) = (s,0):=by unfold pencV; rw [if_pos hb.ok,hb.eq]
     have hpd:=pdecode_yes s (by omega) nm pt pb key gs hP ht;cases gs with
     | nil =>
       have h9:=refD3 s hs (show top rightB s = .ok (.cons 0 16 (.prim 0 2 ⟨#[0]⟩ (.cons 0 16 (.prim 0 6 nm (.prim 0 pt pb .nil)) (.prim 0 4 key .nil))) .nil) from ht) (q0:=.prim 0 2 ⟨#[0]⟩ .nil) (q1:=algF nm pt pb) (q2:=.prim 0 4 key .nil) rfl (qa:=.prim 0 6 nm .nil) (qb:=.prim 0 pt pb .nil) rfl;have h8:DecR s (rR s (Oid.decL nm.data.toList) (Oid.decL pb.data.toList) key (catF [])):=h9;unfold rR at h8;rw [if_pos hv] at h8;exact ⟨_,_,_,_,_,hpd,h8⟩
     | cons g l =>
       have hpj:parts (kidF (.cons 2 0 (join (g :: l)) .nil)) = g :: l:=parts_join _ fun x hx => (hP.gsR x hx).1
       obtain ⟨-,h9⟩:=refD4 s hs (show top rightB s = .ok (.cons 0 16 (.prim 0 2 ⟨#[0]⟩ (.cons 0 16 (.prim 0 6 nm (.prim 0 pt pb .nil)) (.prim 0 4 key (.cons 2 0 (join (g :: l)) .nil)))) .nil) from ht) (q0:=.prim 0 2 ⟨#[0]⟩ .nil) (q1:=algF nm pt pb) (q2:=.prim 0 4 key .nil) (q3:=.cons 2 0 (join (g :: l)) .nil) rfl (qa:=.prim 0 6 nm .nil) (qb:=.prim 0 pt pb .nil) rfl;rw [hpj] at h9;have h8:DecR s (rR s (Oid.decL nm.data.toList) (Oid.decL pb.data.toList) key (catF (g :: l))):=h9;unfold rR at h8;rw [if_pos hv] at h8;exact ⟨_,_,_,_,_,hpd,h8⟩
   · exact ⟨_,_,_,_,_,pdecode_not s (by omega) g ht hg,refNot s hs g ht hg⟩
end Pk
end Go.Proofs.YtpanhhjkecebkaaGreat
