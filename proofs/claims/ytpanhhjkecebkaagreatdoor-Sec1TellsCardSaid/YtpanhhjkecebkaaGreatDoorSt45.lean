import Derived.Test.YtpanhhjkecebkaaGreatDoorSt44
import Derived.Test.YtpanhhjkecebkaaGreatDoorSt43
set_option maxRecDepth 100000
namespace Go.Proofs.YtpanhhjkecebkaaGreatDoor
open Go.RowKit
namespace Sec
open Tlv Tree Strs Curve
theorem cnt_nil {g:F} (h:g.cnt = 0):g = .nil:=by
 cases g with
 | nil => rfl
 | prim c t d nx => have:1 + nx.cnt = 0:=h; omega
 | cons c t ks nx => have:1 + ks.cnt + nx.cnt = 0:=h; omega
theorem tops_nil {g:F} {i:Nat} (h:(g.tops i).length = 0):g = .nil:=by
 cases g with
 | nil => rfl
 | prim c t d nx => have:(nx.tops (i + 1)).length + 1 = 0:=h; omega
 | cons c t ks nx => have:(nx.tops (i + 1 + ks.cnt)).length + 1 = 0:=h; omega
theorem five_key {g:F} (ho:okF rightB g) (h1:single g) (x0 x1 x2 x3 x4:Nd) (hf:g.flat 0 = [x0,x1,x2,x3,x4]) (g0:x0.k.length = 3) (g1:x0.c = 0) (g2:x0.t = 16) (g3:x1.c = 0) (g4:x1.t = 2) (g5:x1.d = ⟨#[1]⟩) (g6:x2.c = 0) (g7:x2.t = 4) (g8:x3.c = 2) (g9:x3.t = 0) (g10:x3.k.length = 1) (g11:x4.c = 0) (g12:x4.t = 6):IsKey g:=by
 cases g with
 | nil => exact absurd h1 (by intro h; exact h)
 | prim c t d nx =>
   have e:=(List.cons.inj hf).1
   rw [<- e] at g0
   exact absurd g0 (by show ¬ 0 = 3; omega)
 | cons c t ks nx =>
   cases (show nx = .nil from h1)
   obtain ⟨e,hh⟩:=List.cons.inj hf
   clear hf
   have hf:=hh
   clear hh
   rw [<- e] at g0 g1 g2
   dsimp only at g0 g1 g2
   obtain rfl:c = 0:=by omega
   obtain rfl:t = 16:=by omega
   replace hf:ks.flat 1 ++ [] = [x1,x2,x3,x4]:=hf
   rw [List.append_nil] at hf
   replace ho:okF rightB ks:=ho.2.2.2.1
   cases ks with
   | nil => cases hf
   | cons c t k2 n2 =>
     obtain ⟨e,-⟩:=List.cons.inj hf
     rw [<- e] at g3 g4
     dsimp only at g3 g4
     rcases ho.2.2.1 with h9 | h9 | h9 <;> omega
   | prim c t d n2 =>
     obtain ⟨e,hh⟩:=List.cons.inj hf
     clear hf
     have hf:=hh
     clear hh
     rw [<- e] at g3 g4 g5
     dsimp only at g3 g4 g5
     obtain rfl:c = 0:=by omega
     obtain rfl:t = 2:=by omega
     subst g5
     replace g0:(n2.tops 2).length + 1 = 3:=g0
     replace ho:=ho.2.2.2
     replace hf:n2.flat 2 = [x2,x3,x4]:=hf
     cases n2 with
     | nil => cases hf
     | cons c t k2 n3 =>
       obtain ⟨e,-⟩:=List.cons.inj hf
       rw [<- e] at g6 g7
       dsimp only at g6 g7
       rcases ho.2.2.1 with h9 | h9 | h9 <;> omega
     | prim c t k n3 =>
       obtain ⟨e,hh⟩:=List.cons.inj hf
       clear hf
       have hf:=hh
       clear hh
       rw [<- e] at g6 g7
       dsimp only at g6 g7
       obtain rfl:c = 0:=by omega
       obtain rfl:t = 4:=by omega
       replace g0:(n3.tops 3).length + 1 + 1 = 3:=g0
       replace ho:=ho.2.2.2
       replace hf:n3.flat 3 = [x3,x4]:=hf
       cases n3 with
       | nil => cases hf
       | prim c t d n4 =>
         obtain ⟨e,-⟩:=List.cons.inj hf
         rw [<- e] at g10
         exact absurd g10 (by show ¬ 0 = 1; omega)
       | cons c t k2 n4 =>
         obtain ⟨e,hh⟩:=List.cons.inj hf
         clear hf
         have hf:=hh
         clear hh
         rw [<- e] at g8 g9 g10
         dsimp only at g8 g9 g10
         obtain rfl:c = 2:=by omega
         obtain rfl:t = 0:=by omega
         replace g0:(n4.tops (3 + 1 + k2.cnt)).length + 1 + 1 + 1 = 3:=g0
         obtain rfl:=tops_nil (g:=n4) (i:=3 + 1 + k2.cnt) (by omega)
         replace hf:k2.flat 4 ++ [] = [x4]:=hf
         rw [List.append_nil] at hf
         replace ho:okF rightB k2:=ho.2.2.2.1
         cases k2 with
         | nil => cases hf
         | cons c t k3 n5 =>
           obtain ⟨e,-⟩:=List.cons.inj hf
           rw [<- e] at g11 g12
           dsimp only at g11 g12
           rcases ho.2.2.1 with h9 | h9 | h9 <;> omega
         | prim c t nm n5 =>
           obtain ⟨e,hh⟩:=List.cons.inj hf
           clear hf
           have hf:=hh
           clear hh
           rw [<- e] at g11 g12
           dsimp only at g11 g12
           obtain rfl:c = 0:=by omega
           obtain rfl:t = 6:=by omega
           have hz:(n5.flat 5).length = 0:=by
             have hf':n5.flat 5 = []:=hf
             rw [hf']; rfl
           rw [F.flat_len] at hz
           obtain rfl:=cnt_nil hz
           refine ⟨nm,k,rfl, ?_⟩
           rcases ho.2.2.1 with h9 | h9
           · exact absurd rfl h9
           · exact h9
theorem rdec_t (s:ByteArray) (C P:Nat) (N:List Nd) (S:List (Nat × Nat)) (ht:topV s = (C,P,N,S)):RDecT s (C:Int) (P:Int) N:=fun w => rdec_u s C P N S ht w
theorem dec_both (s:ByteArray) (hm:s.size <= 1000):∃ n x e,KMk Tabs 8 #[.string s] (.tuple #[.int .i64 n,.string x,.int .i64 e]) /\ Mak 9 #[.string s] (.tuple #[.int .i64 n,.string x,.int .i64 e]):=by
 have hm2:s.size <= maxLen:=by unfold maxLen; omega
 cases ht:top rightB s with
 | error z =>
   obtain ⟨c,p⟩:=z
   have hc:=(top_err_ok ht).1
   have hv:topV s = (c,p,[],[]):=by unfold topV; rw [ht]
   have hcc:((c:Int) != 0) = true:=by rw [bne_iff_ne]; omega
   exact ⟨0,⟨#[]⟩,(c:Int),dec_err s _ (p:Int) hcc (fun w => dec_u s hm2 c p _ _ hv w),Sec.rdec_err s _ (p:Int) hcc (rdec_t s c p _ _ hv)⟩
 | ok g =>
   obtain ⟨hg,he⟩:=top_is ht
   have d1:=dec_of_top hm2 ht
   have hv:topV s = (0,0,g.flat 0,g.spans 0):=by unfold topV; rw [ht]
   have d2:RDecT s 0 0 (g.flat 0):=rdec_t s 0 0 _ _ hv
   have hel:g.enc.length = s.size:=by rw [he]; rfl
   have hsm:Small (g.flat 0):=⟨by have:=hg.len; omega,fun x hx => by have:=size_le g 0 x hx; omega⟩
   by_cases hk:IsKey g
   case neg =>
     refine ⟨0,⟨#[]⟩,5,dec_form s 0 0 rfl _ d1 (proper_no hg hsm hk), ?_⟩
     by_cases hl:(g.flat 0).length = 5
     case neg => exact rdec_len s 0 0 rfl _ d2 (bne_iff_ne.2 (by omega))
     obtain ⟨x0,x1,x2,x3,x4,hf⟩:∃ x0 x1 x2 x3 x4,g.flat 0 = [x0,x1,x2,x3,x4]:=by
       match hq:g.flat 0,hl with
       | [a,b,c,d,e],_ => exact ⟨a,b,c,d,e,rfl⟩
     rw [hf] at d2
     have b0:=rdec_0 s 0 0 rfl x0 x1 x2 x3 x4 d2
     have b1:=rdec_1 s 0 0 rfl x0 x1 x2 x3 x4 d2
     have b2:=rdec_2 s 0 0 rfl x0 x1 x2 x3 x4 d2
     have b3:=rdec_3 s 0 0 rfl x0 x1 x2 x3 x4 d2
     have b4:=rdec_4 s 0 0 rfl x0 x1 x2 x3 x4 d2
     have b5:=rdec_5 s 0 0 rfl x0 x1 x2 x3 x4 d2
     have b6:=rdec_6 s 0 0 rfl x0 x1 x2 x3 x4 d2
     have b7:=rdec_7 s 0 0 rfl x0 x1 x2 x3 x4 d2
     have b8:=rdec_8 s 0 0 rfl x0 x1 x2 x3 x4 d2
     have b9:=rdec_9 s 0 0 rfl x0 x1 x2 x3 x4 d2
     have b10:=rdec_10 s 0 0 rfl x0 x1 x2 x3 x4 d2
     have b11:=rdec_11 s 0 0 rfl x0 x1 x2 x3 x4 d2
     have b12:=rdec_12 s 0 0 rfl x0 x1 x2 x3 x4 d2
     cases g0:((x0.k.length:Int) != 3) with
     | true => exact b0 g0
     | false =>
     cases g1:(x0.c != 0) with
     | true => exact b1 g0 g1
     | false =>
     cases g2:(x0.t != 16) with
     | true => exact b2 g0 g1 g2
     | false =>
     cases g3:(x1.c != 0) with
     | true => exact b3 g0 g1 g2 g3
     | false =>
     cases g4:(x1.t != 2) with
     | true => exact b4 g0 g1 g2 g3 g4
     | false =>
     cases g5:(!(x1.d.toList == [1])) with
     | true => exact b5 g0 g1 g2 g3 g4 g5
     | false =>
     cases g6:(x2.c != 0) with
     | true => exact b6 g0 g1 g2 g3 g4 g5 g6
     | false =>
     cases g7:(x2.t != 4) with
     | true => exact b7 g0 g1 g2 g3 g4 g5 g6 g7
     | false =>
     cases g8:(x3.c != 2) with
     | true => exact b8 g0 g1 g2 g3 g4 g5 g6 g7 g8
     | false =>
     cases g9:(x3.t != 0) with
     | true => exact b9 g0 g1 g2 g3 g4 g5 g6 g7 g8 g9
     | false =>
     cases g10:((x3.k.length:Int) != 1) with
     | true => exact b10 g0 g1 g2 g3 g4 g5 g6 g7 g8 g9 g10
     | false =>
     cases g11:(x4.c != 0) with
     | true => exact b11 g0 g1 g2 g3 g4 g5 g6 g7 g8 g9 g10 g11
     | false =>
     cases g12:(x4.t != 6) with
     | true => exact b12 g0 g1 g2 g3 g4 g5 g6 g7 g8 g9 g10 g11 g12
     | false =>
     refine absurd (five_key hg.ok hg.one x0 x1 x2 x3 x4 hf ?_ (bne_eq_false_iff_eq.1 g1) (bne_eq_false_iff_eq.1 g2) (bne_eq_false_iff_eq.1 g3) (bne_eq_false_iff_eq.1 g4) ?_ (bne_eq_false_iff_eq.1 g6) (bne_eq_false_iff_eq.1 g7) (bne_eq_false_iff_eq.1 g8) (bne_eq_false_iff_eq.1 g9) ?_ (bne_eq_false_iff_eq.1 g11) (bne_eq_false_iff_eq.1 g12)) hk
     · have:=bne_eq_false_iff_eq.1 g0; omega
     · rw [Bool.not_eq_false',beq_iff_eq,toList_d] at g5
       exact ba_ext g5
     · have:=bne_eq_false_iff_eq.1 g10; omega
   obtain ⟨nm,k,rfl,hr⟩:=hk
   have hks:k.size <= 1000:=by
     have:=size_le (keyF nm k) 0 ⟨0,4,false,k,[]⟩ (List.mem_iff_getElem?.2 ⟨2,rfl⟩)
     dsimp only at this
     omega
   have hns:nm.size <= 1000:=by
     have:=size_le (keyF nm k) 0 ⟨0,6,false,nm,[]⟩ (List.mem_iff_getElem?.2 ⟨4,rfl⟩)
     dsimp only at this
     omega
   obtain ⟨⟨n,q⟩,hnq⟩:∃ z,z = arcsF (Oid.decL nm.data.toList):=⟨_,rfl⟩
   have c1:=proper_yes nm k hr hsm
   have c2:=Oid.decode_mk nm (by omega) _ _ rfl rfl
   have c3:=by_rd _ n q hnq
   have c4:=check_k n k (by omega) _ rfl
   have k2:=Oid.rdecode_mk nm (by omega) _ _ rfl rfl
   have k3:=rby_rd _ n q hnq
   have k4:=rencode_k n k hks _ _ rfl rfl
   have b5:(!((⟨#[1]⟩:ByteArray).toList == [1])) = false:=by rw [toList_d]; rfl
   cases q with
   | false =>
     have hn0:n = 0:=by
       rcases fnd_inv _ rows 0 n false hnq.symm with ⟨h9,-⟩ | ⟨-,h9⟩
       · cases h9
       · exact h9
     have h8:chkE n k = 8:=by rw [hn0]; rfl
     rw [h8] at c4
     exact ⟨0,⟨#[]⟩,8,dec_key0 s nm k 0 0 rfl d1 c1 _ _ c2 n _ c3 8 rfl c4,rdec_kind s 0 0 rfl ⟨0,16,true,⟨#[]⟩,[1,2,3]⟩ ⟨0,2,false,⟨#[1]⟩,[]⟩ ⟨0,4,false,k,[]⟩ ⟨2,0,true,⟨#[]⟩,[4]⟩ ⟨0,6,false,nm,[]⟩ d2 rfl rfl rfl rfl rfl b5 rfl rfl rfl rfl rfl rfl rfl _ _ k2 n k3⟩
   | true =>
     by_cases hE:chkE n k = 0
     · rw [hE] at c4 k4
       exact ⟨n,k,0,dec_key1 s nm k 0 0 rfl d1 c1 _ _ c2 n _ c3 0 rfl c4,rdec_key1 s 0 0 rfl ⟨0,16,true,⟨#[]⟩,[1,2,3]⟩ ⟨0,2,false,⟨#[1]⟩,[]⟩ ⟨0,4,false,k,[]⟩ ⟨2,0,true,⟨#[]⟩,[4]⟩ ⟨0,6,false,nm,[]⟩ d2 rfl rfl rfl rfl rfl b5 rfl rfl rfl rfl rfl rfl rfl _ _ k2 n k3 _ 0 rfl k4⟩
     · exact ⟨0,⟨#[]⟩,chkE n k,dec_key0 s nm k 0 0 rfl d1 c1 _ _ c2 n _ c3 _ (bne_iff_ne.2 hE) c4,rdec_key0 s 0 0 rfl ⟨0,16,true,⟨#[]⟩,[1,2,3]⟩ ⟨0,2,false,⟨#[1]⟩,[]⟩ ⟨0,4,false,k,[]⟩ ⟨2,0,true,⟨#[]⟩,[4]⟩ ⟨0,6,false,nm,[]⟩ d2 rfl rfl rfl rfl rfl b5 rfl rfl rfl rfl rfl rfl rfl _ _ k2 n k3 _ _ (bne_iff_ne.2 hE) k4⟩
end Sec
end Go.Proofs.YtpanhhjkecebkaaGreatDoor
