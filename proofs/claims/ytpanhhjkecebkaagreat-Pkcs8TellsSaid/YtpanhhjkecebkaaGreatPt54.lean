import Derived.Test.YtpanhhjkecebkaaGreatPt53
import Derived.Test.YtpanhhjkecebkaaGreatPt47
import Derived.Test.YtpanhhjkecebkaaGreatPt48
import Derived.Test.YtpanhhjkecebkaaGreatPt49
import Derived.Test.YtpanhhjkecebkaaGreatPt50
import Derived.Test.YtpanhhjkecebkaaGreatPt51
set_option maxRecDepth 100000
namespace Go.Proofs.YtpanhhjkecebkaaGreat
open Go.RowKit
namespace Pk
open Tlv Tree Strs Rw
def parT (ps:List Int):Nat:=if ps.length = 0 then 5 else 6
def parB (ps:List Int):ByteArray:=if ps.length = 0 then ⟨#[]⟩ else bs (Oid.enc ps)
def atsOk (s:ByteArray):Prop:=(pcsV s).1 = 0 /\ ∀ x ∈ (pcsV s).2.2,okx x = true
def atsG (s:ByteArray):List F:=(pcsV s).2.2.map gOf
def pkT (xs ps:List Int) (key attrs:ByteArray):F:=pkF (bs (Oid.enc xs)) (parT ps) (parB ps) key (atsG attrs)
def pkOk (xs ps:List Int) (key attrs:ByteArray):Prop:=Oid.Ok xs /\ (ps.length = 0 ∨ Oid.Ok ps) /\ atsOk attrs /\ rigB rightB ((pkT xs ps key attrs).flat 0) = true
open Classical in
noncomputable def pencV (xs ps:List Int) (key attrs:ByteArray):ByteArray × Int:=if pkOk xs ps key attrs then (bs (pkT xs ps key attrs).enc,0) else (⟨#[]⟩,1)
noncomputable def pencW (xs ps:List Int) (key attrs:ByteArray):Value:=.tuple #[.string (pencV xs ps key attrs).1,.int .i64 (pencV xs ps key attrs).2]
theorem pencW_no {xs ps:List Int} {key attrs:ByteArray} (h:¬ pkOk xs ps key attrs):pencW xs ps key attrs = .tuple #[.string ⟨#[]⟩,.int .i64 1]:=by unfold pencW pencV; rw [if_neg h]
theorem pencW_yes {xs ps:List Int} {key attrs:ByteArray} (h:pkOk xs ps key attrs):pencW xs ps key attrs = .tuple #[.string (bs (pkT xs ps key attrs).enc),.int .i64 0]:=by unfold pencW pencV; rw [if_pos h]
theorem enc_app2 (f g:F):(f.app g).enc = f.enc ++ g.enc:=by
 induction f with
 | nil => rfl
 | prim c t d nx ih =>
   show Head.encL c t false d.size ++ d.data.toList ++ (nx.app g).enc = Head.encL c t false d.size ++ d.data.toList ++ nx.enc ++ g.enc
   rw [ih,List.append_assoc (Head.encL c t false d.size ++ d.data.toList)]
 | cons c t ks nx _ ih =>
   show Head.encL c t true ks.enc.length ++ ks.enc ++ (nx.app g).enc = Head.encL c t true ks.enc.length ++ ks.enc ++ nx.enc ++ g.enc
   rw [ih,List.append_assoc (Head.encL c t true ks.enc.length ++ ks.enc)]
theorem join_enc (gs:List F):(join gs).enc = (gs.map F.enc).flatten:=by
 induction gs with
 | nil => rfl
 | cons g l ih =>
   show (g.app (join l)).enc = _
   rw [enc_app2,ih,List.map_cons,List.flatten_cons]
theorem cnt_le (g:F):2 * g.cnt <= g.enc.length:=by
 induction g with
 | nil => exact Nat.le_refl _
 | prim c t d nx ih =>
   have h1:=encL_two c t false d.size
   show 2 * (1 + nx.cnt) <= (Head.encL c t false d.size ++ d.data.toList ++ nx.enc).length
   rw [List.length_append,List.length_append];omega
 | cons c t ks nx ih1 ih2 =>
   have h1:=encL_two c t true ks.enc.length
   show 2 * (1 + ks.cnt + nx.cnt) <= (Head.encL c t true ks.enc.length ++ ks.enc ++ nx.enc).length
   rw [List.length_append,List.length_append];omega
theorem okx_is {x:ByteArray} (h:okx x = true):top rightB x = .ok (gOf x):=by
 unfold okx at h;unfold gOf;cases hq:top rightB x with
 | ok g => rfl
 | error e => rw [hq] at h; cases h
theorem ats_is {s:ByteArray} (hs:s.size <= 65535) (h:atsOk s):(∀ g ∈ atsG s,single g /\ okF rightB g) /\ (join (atsG s)).enc = s.data.toList /\ 2 * (join (atsG s)).cnt <= s.size:=by
 have h1:∀ g ∈ atsG s,single g /\ okF rightB g:=fun g hg => by
   obtain ⟨x,hx,rfl⟩:=List.mem_map.1 hg;obtain ⟨h2,-⟩:=top_is (okx_is (h.2 x hx));exact ⟨h2.one,h2.ok⟩
 have h3:(join (atsG s)).enc = s.data.toList:=by
   rw [join_enc];unfold atsG;rw [List.map_map];have hex:∃ l,pcsF s (s.size + 1) 0 = .ok l:=by
     cases hq:pcsF s (s.size + 1) 0 with
     | ok l => exact ⟨l,rfl⟩
     | error y =>
       obtain ⟨c,p⟩:=y;have h9:=pcs_err _ _ _ _ _ hq;have h8:=h.1;unfold pcsV at h8;rw [if_neg (by omega),hq] at h8;exact absurd h8 h9
   have hv:pcsV s = (0,0,(pcsV s).2.2):=by
     obtain ⟨l,hl⟩:=hex;unfold pcsV;rw [if_neg (by omega),hl]
   rw [<- pcs_flat s _ hv hs hex]
   congr 1
   exact List.map_congr_left fun x hx => (top_is (okx_is (h.2 x hx))).2
 refine ⟨h1,h3, ?_⟩;have h4:=cnt_le (join (atsG s));rw [h3] at h4;exact h4
theorem pk_len (nm:ByteArray) (pt:Nat) (pb key:ByteArray) (gs:List F):(pkF nm pt pb key gs).enc.length <= 56 + nm.size + pb.size + key.size + (join gs).enc.length:=by
 have h1:=Atm.len_cons 0 16 (.prim 0 2 ⟨#[0]⟩ (.cons 0 16 (.prim 0 6 nm (.prim 0 pt pb .nil)) (.prim 0 4 key (atsF gs)))) .nil;have h2:=Atm.len_prim 0 2 ⟨#[0]⟩ (.cons 0 16 (.prim 0 6 nm (.prim 0 pt pb .nil)) (.prim 0 4 key (atsF gs)));have h3:=Atm.len_cons 0 16 (.prim 0 6 nm (.prim 0 pt pb .nil)) (.prim 0 4 key (atsF gs));have h4:=Atm.len_prim 0 6 nm (.prim 0 pt pb .nil);have h5:=Atm.len_prim 0 pt pb .nil;have h6:=Atm.len_prim 0 4 key (atsF gs);have h7:(atsF gs).enc.length <= 7 + (join gs).enc.length:=by
   cases gs with
   | nil => exact Nat.zero_le _
   | cons g l => exact Nat.le_trans (Atm.len_cons 2 0 (join (g :: l)) .nil) (by show 7 + _ + 0 <= _; omega)
 have h8:F.nil.enc.length = 0:=rfl;have h9:(⟨#[0]⟩:ByteArray).size = 1:=rfl;unfold pkF;omega
theorem size_le (g:F):∀ (i:Nat),∀ x ∈ g.flat i,x.d.size <= g.enc.length:=by
 induction g with
 | nil => intro i x h; cases h
 | prim c t d nx ih =>
   intro i x h;have hE:(F.prim c t d nx).enc.length = (Head.encL c t false d.size).length + d.data.toList.length + nx.enc.length:=by
     show (Head.encL c t false d.size ++ d.data.toList ++ nx.enc).length = _
     rw [List.length_append,List.length_append]
   have hd:d.data.toList.length = d.size:=rfl;rcases List.mem_cons.1 (show x ∈ (⟨c,t,false,d,[]⟩:Nd) :: nx.flat (i + 1) from h) with rfl | h
   · dsimp only; omega
   · have:=ih _ x h; omega
 | cons c t ks nx ih1 ih2 =>
   intro i x h;have hE:(F.cons c t ks nx).enc.length = (Head.encL c t true ks.enc.length).length + ks.enc.length + nx.enc.length:=by
     show (Head.encL c t true ks.enc.length ++ ks.enc ++ nx.enc).length = _
     rw [List.length_append,List.length_append]
   rcases List.mem_cons.1 (show x ∈ (⟨c,t,true,⟨#[]⟩,ks.tops (i + 1)⟩:Nd) :: (ks.flat (i + 1) ++ nx.flat (i + 1 + ks.cnt)) from h) with rfl | h
   · exact Nat.zero_le _
   · rcases List.mem_append.1 h with h | h
     · have:=ih1 _ x h; omega
     · have:=ih2 _ x h; omega
theorem oid_size (xs:List Int) (h:Oid.Ok xs):(bs (Oid.enc xs)).size <= 200:=by
 have h2:=((Oid.ok_iff xs).1 h).1;rw [size_bs,<- Oid.encU_all xs h (xs.length - 2) (by omega)];exact Oid.encU_len xs h _
theorem par_size (ps:List Int) (h:ps.length = 0 ∨ Oid.Ok ps):(parB ps).size <= 200:=by
 unfold parB
 by_cases h0:ps.length = 0
 · rw [if_pos h0]; exact Nat.zero_le _
 · rw [if_neg h0]; exact oid_size ps (by rcases h with h | h; exact absurd h h0; exact h)
theorem zero_mak:Mak 66 #[.int .i64 0] (.string ⟨#[0]⟩):=Whole.enc_mak 0 0 (by decide) (by decide) (by decide) _ (by decide +kernel)
theorem dec_tn (x:ByteArray) (hm:x.size <= 65535):(okx x = true /\ DecT x 0 0 ((gOf x).flat 0)) ∨ (okx x = false /\ ∃ C P:Int,(C != 0) = true /\ DecT x C P []):=by
 have hm2:x.size <= maxLen:=by unfold maxLen; omega
 unfold okx gOf;cases ht:top rightB x with
 | error z =>
   obtain ⟨c,q⟩:=z;have hc:=(top_err_ok ht).1;exact Or.inr ⟨rfl,(c:Int),(q:Int),bne_iff_ne.2 (by omega),fun w => dec_n x hm2 c q _ _ (show topV x = (c,q,[],[]) by unfold topV; rw [ht]) w⟩
 | ok g => exact Or.inl ⟨rfl,fun w => dec_n x hm2 0 0 _ _ (show topV x = (0,0,g.flat 0,g.spans 0) by unfold topV; rw [ht]) w⟩
theorem pcs_cnt (s:ByteArray) (hs:s.size <= 65535) (p:Nat) (L:List ByteArray) (hv:pcsV s = (0,p,L)):L.length <= s.size:=by
 cases hq:pcsF s (s.size + 1) 0 with
 | error y =>
   obtain ⟨c,q⟩:=y;have h9:=pcs_err _ _ _ _ _ hq;unfold pcsV at hv;rw [if_neg (by omega),hq] at hv;dsimp only at hv;exact absurd (Prod.mk.inj hv).1 h9
 | ok l =>
   unfold pcsV at hv;rw [if_neg (by omega),hq] at hv;dsimp only at hv;cases hv;have h1:=Atf.pcs_len _ _ _ _ hq;omega
theorem ats_no (s:ByteArray) (hs:s.size <= 1000) (h:¬ atsOk s):ArR 65 s [] false:=by
 obtain ⟨⟨c,p,L⟩,hv⟩:∃ y,pcsV s = y:=⟨_,rfl⟩
 have d1:=pieces_u s (by omega) c p L hv;unfold atsOk at h;rw [hv] at h;dsimp only at h
 by_cases hc:c = 0
 case neg => exact aro_1 s _ _ (bne_iff_ne.2 (by omega)) L d1
 subst hc;have hb:∃ x ∈ L,okx x = false:=by
   rcases Classical.em (∃ x ∈ L,okx x = false) with h1 | h1
   · exact h1
   · refine absurd ⟨rfl,fun x hx => ?_⟩ h;cases h2:okx x with
     | true => rfl
     | false => exact absurd ⟨x,hx,h2⟩ h1
 have hl:=pcs_cnt s (by omega) p L hv;have hz:=(Atf.pcs_small s (by omega) p L hv).2;refine aro_2 s _ _ rfl L (by omega) d1 (fun x hx => dec_tn x (hz x hx)) ([],false) (fun _ => rfl) (fun h1 => ?_) (fun h1 => ?_)
 · obtain ⟨x,hx,h2⟩:=hb;rw [h1 x hx] at h2;cases h2
 · obtain ⟨x,hx,h2⟩:=hb;rw [h1 x hx] at h2;cases h2
theorem ats_yes (s:ByteArray) (hs:s.size <= 1000) (h:atsOk s):ArR 65 s ((atsF (atsG s)).flat 0) true:=by
 obtain ⟨g1,g2,g3⟩:=ats_is (by omega) h;obtain ⟨⟨c,p,L⟩,hv⟩:∃ y,pcsV s = y:=⟨_,rfl⟩
 have d1:=pieces_u s (by omega) c p L hv;have hG:atsG s = L.map gOf:=by unfold atsG; rw [hv]
 rw [hG] at g1 g3 ⊢;unfold atsOk at h;rw [hv] at h;dsimp only at h;obtain ⟨rfl,h⟩:=h;have hl:=pcs_cnt s (by omega) p L hv;have hz:=(Atf.pcs_small s (by omega) p L hv).2;exact aro_2 s _ _ rfl L (by omega) d1 (fun x hx => dec_tn x (hz x hx)) ((atsF (L.map gOf)).flat 0,true) (fun ⟨x,hx,h2⟩ => by rw [h x hx] at h2; cases h2) (fun _ => rfl) (fun _ => ⟨fun g hg => (g1 g hg).1,by omega⟩)
theorem par_e (ps:List Int) (h:ps.length = 0 ∨ Oid.Ok ps):ParE ps (parT ps) (parB ps):=by
 unfold ParE parT parB
 by_cases h0:ps.length = 0
 · rw [if_pos h0,if_pos h0]; exact Or.inl ⟨h0,rfl,rfl⟩
 · rw [if_neg h0,if_neg h0];have hk:Oid.Ok ps:=by rcases h with h | h; exact absurd h h0; exact h
   exact Or.inr ⟨by omega,rfl,fun w v hv => Oid.encode_yes w v ps hv hk _ rfl⟩
theorem pencode_rd (xs ps:List Int) (key attrs:ByteArray) (hk:key.size <= 1000) (ha:attrs.size <= 1000):RdP 27 xs ps key attrs (pencW xs ps key attrs):=by
 by_cases h1:Oid.Ok xs
 case neg =>
   rw [pencW_no fun h => h1 h.1];exact penc_1 xs ps key attrs ⟨#[]⟩ fun w v hv => (Oid.encode_no w v xs hv h1).mono fun _ _ ⟨he,hw⟩ => ⟨he,by subst hw; exact Since.refl _⟩
 have c1:∀ w v,IntsS w v xs -> Calls Tryz.prog 50 #[v] w fun e w' => e = .returned (.tuple #[.string (bs (Oid.enc xs)),.bool true]) /\ Since w w':=fun w v hv => Oid.encode_yes w v xs hv h1 _ rfl
 by_cases h2:ps.length = 0 ∨ Oid.Ok ps
 case neg =>
   rw [pencW_no fun h => h2 h.2.1];simp only [not_or] at h2;exact penc_2 xs ps key attrs _ ⟨#[]⟩ (by omega) c1 fun w v hv => (Oid.encode_no w v ps hv h2.2).mono fun _ _ ⟨he,hw⟩ => ⟨he,by subst hw; exact Since.refl _⟩
 by_cases h3:atsOk attrs
 case neg =>
   rw [pencW_no fun h => h3 h.2.2.1];exact penc_3 xs ps key attrs _ _ _ c1 (par_e ps h2) (ats_no attrs ha h3)
 obtain ⟨g1,g2,g3⟩:=ats_is (by omega) h3;have hl:=pk_len (bs (Oid.enc xs)) (parT ps) (parB ps) key (atsG attrs);have s1:=oid_size xs h1;have s2:=par_size ps h2;have s3:(join (atsG attrs)).enc.length = attrs.size:=by rw [g2]; rfl
 have hcn:=cnt_le (pkT xs ps key attrs);have hlen:((pkT xs ps key attrs).flat 0).length = (pkT xs ps key attrs).cnt:=F.flat_len _ _;have hlT:(pkT xs ps key attrs).enc.length <= 2500:=by unfold pkT; omega
 have hsm:Small ((pkT xs ps key attrs).flat 0):=⟨by omega,fun x hx => by have:=size_le (pkT xs ps key attrs) 0 x hx; omega⟩
 have c4:=rig_rd _ hsm;have c5:RdT 53 ((pkT xs ps key attrs).flat 0) (fun v => #[v]) (pencW xs ps key attrs):=by
   cases hr:rigB rightB ((pkT xs ps key attrs).flat 0) with
   | false =>
     rw [pencW_no fun h => by have h9:=h.2.2.2; unfold pkT at hr h9; rw [hr] at h9; cases h9];rw [hr] at c4;exact enc_not _ c4
   | true =>
     rw [pencW_yes ⟨h1,h2,h3,hr⟩];rw [hr] at c4;have hI:IsT rightB ((pkT xs ps key attrs).flat 0) (pkT xs ps key attrs):=pk_is hr;exact enc_yes _ _ _ (wr_of hI) (by omega) hsm hI.len (fair_of hI).kids c4
 unfold pencW at c5 ⊢;exact penc_4 xs ps key attrs _ _ _ (atsG attrs) (by omega) zero_mak c1 (par_e ps h2) (ats_yes attrs ha h3) _ _ c5
end Pk
namespace Pk
open Tlv Tree Strs Rw
theorem tag_is (x:Nd) (c t:Int):tagsB x.c x.t c [t] = (decide (x.c = c) && decide (x.t = t)):=by
 unfold tagsB;rw [List.any_cons,List.any_nil,Bool.or_false]
 congr 1
theorem tag_two (x:Nd) (h:tagsB x.c x.t 0 [6,5] = true):∃ pt:Nat,(pt = 5 ∨ pt = 6) /\ (decide (x.c = 0) && decide (x.t = (pt:Int))) = true:=by
 unfold tagsB at h;rw [List.any_cons,List.any_cons,List.any_nil,Bool.or_false,Bool.or_eq_true] at h;rcases h with h | h
 · exact ⟨6,Or.inr rfl,h⟩
 · exact ⟨5,Or.inl rfl,h⟩
theorem flat_first {p:F} (hs:single p):∃ y,(p.flat 0)[0]? = some y:=by
 cases p with
 | nil => exact absurd hs (by intro h; exact h)
 | prim c t d nx => exact ⟨_,rfl⟩
 | cons c t ks nx => exact ⟨_,rfl⟩
def IsPk (g:F):Prop:=∃ nm pt pb key gs,g = pkF nm pt pb key gs /\ Pt nm pt pb gs
theorem proper_no {ks:F} (hok:okF rightB ks) (hn:¬ IsPk (.cons 0 16 ks .nil)):RdQ 70 ((parts ks).map fun p => p.flat 0) false:=by
 by_cases h3:(parts ks).length = 3
 · obtain ⟨p0,p1,p2,hp⟩:∃ p0 p1 p2,parts ks = [p0,p1,p2]:=by
     match hq:parts ks,h3 with
     | [a,b,c],_ => exact ⟨a,b,c,rfl⟩
   rw [hp];obtain ⟨s0,o0,-⟩:=parts_at rightB ks 0 0 p0 hok (by rw [hp]; rfl);obtain ⟨s1,o1,-⟩:=parts_at rightB ks 0 1 p1 hok (by rw [hp]; rfl);obtain ⟨s2,o2,-⟩:=parts_at rightB ks 0 2 p2 hok (by rw [hp]; rfl);obtain ⟨y0,hy0⟩:=flat_first s0;obtain ⟨y1,hy1⟩:=flat_first s1;obtain ⟨y2,hy2⟩:=flat_first s2;cases q1:tagsB y0.c y0.t 0 [2] with
   | false => exact proper3_1 _ _ _ y0 y1 y2 hy0 hy1 hy2 zero_mak q1.symm
   | true =>
   cases t1:(y0.d.toList == [0]) with
   | false => exact proper3_2 _ _ _ y0 y1 y2 hy0 hy1 hy2 zero_mak q1.symm t1
   | true =>
   cases q2:tagsB y1.c y1.t 0 [16] with
   | false => exact proper3_3 _ _ _ y0 y1 y2 hy0 hy1 hy2 zero_mak q1.symm t1 q2.symm
   | true =>
   by_cases h5:(p1.flat 0).length = 3
   case neg => exact proper3_4 _ _ _ y0 y1 y2 hy0 hy1 hy2 zero_mak q1.symm t1 q2.symm h5
   obtain ⟨y4,hy4⟩:∃ y,(p1.flat 0)[1]? = some y:=⟨_,List.getElem?_eq_getElem (by omega)⟩
   obtain ⟨y5,hy5⟩:∃ y,(p1.flat 0)[2]? = some y:=⟨_,List.getElem?_eq_getElem (by omega)⟩
   cases q3:tagsB y4.c y4.t 0 [6] with
   | false => exact proper3_5 _ _ _ y0 y1 y2 hy0 hy1 hy2 zero_mak q1.symm t1 q2.symm h5 y4 y5 hy4 hy5 q3.symm
   | true =>
   cases q4:tagsB y5.c y5.t 0 [6,5] with
   | false => exact proper3_6 _ _ _ y0 y1 y2 hy0 hy1 hy2 zero_mak q1.symm t1 q2.symm h5 y4 y5 hy4 hy5 q3.symm q4.symm
   | true =>
   cases q5:tagsB y2.c y2.t 0 [4] with
   | false => exact proper3_7 _ _ _ y0 y1 y2 hy0 hy1 hy2 zero_mak q1.symm t1 q2.symm h5 y4 y5 hy4 hy5 q3.symm q4.symm q5.symm
   | true =>
   obtain ⟨pt,hpt,hp5⟩:=tag_two y5 q4;have hback:=fun rest hl h3 => pk_back hok _ hp p0 p1 p2 rest hl (by rw [isB_some hy0,<- tag_is]; exact q1) (fun x hx => by
     rw [hy0] at hx;cases hx;have h7:=eq_of_beq t1;rw [toList_d] at h7;exact ba_ext h7) (by rw [isB_some hy1,<- tag_is]; exact q2) h5 (by rw [isB_some hy4,<- tag_is]; exact q3) pt hpt (by rw [isB_some hy5]; exact hp5) (by rw [isB_some hy2,<- tag_is]; exact q5) h3
   refine absurd ?_ hn;obtain ⟨nm,pb,key,gs,h9,h8,-⟩:=hback [] rfl (Or.inl rfl);exact ⟨nm,pt,pb,key,gs,h9,h8⟩
 · by_cases h4:(parts ks).length = 4
   · obtain ⟨p0,p1,p2,p3,hp⟩:∃ p0 p1 p2 p3,parts ks = [p0,p1,p2,p3]:=by
       match hq:parts ks,h4 with
       | [a,b,c,d],_ => exact ⟨a,b,c,d,rfl⟩
     rw [hp];obtain ⟨s3,o3,-⟩:=parts_at rightB ks 0 3 p3 hok (by rw [hp]; rfl);obtain ⟨y3,hy3⟩:=flat_first s3;obtain ⟨s0,o0,-⟩:=parts_at rightB ks 0 0 p0 hok (by rw [hp]; rfl);obtain ⟨s1,o1,-⟩:=parts_at rightB ks 0 1 p1 hok (by rw [hp]; rfl);obtain ⟨s2,o2,-⟩:=parts_at rightB ks 0 2 p2 hok (by rw [hp]; rfl);obtain ⟨y0,hy0⟩:=flat_first s0;obtain ⟨y1,hy1⟩:=flat_first s1;obtain ⟨y2,hy2⟩:=flat_first s2;cases q1:tagsB y0.c y0.t 0 [2] with
     | false => exact proper4_1 _ _ _ _ y0 y1 y2 y3 hy0 hy1 hy2 hy3 zero_mak q1.symm
     | true =>
     cases t1:(y0.d.toList == [0]) with
     | false => exact proper4_2 _ _ _ _ y0 y1 y2 y3 hy0 hy1 hy2 hy3 zero_mak q1.symm t1
     | true =>
     cases q2:tagsB y1.c y1.t 0 [16] with
     | false => exact proper4_3 _ _ _ _ y0 y1 y2 y3 hy0 hy1 hy2 hy3 zero_mak q1.symm t1 q2.symm
     | true =>
     by_cases h5:(p1.flat 0).length = 3
     case neg => exact proper4_4 _ _ _ _ y0 y1 y2 y3 hy0 hy1 hy2 hy3 zero_mak q1.symm t1 q2.symm h5
     obtain ⟨y4,hy4⟩:∃ y,(p1.flat 0)[1]? = some y:=⟨_,List.getElem?_eq_getElem (by omega)⟩
     obtain ⟨y5,hy5⟩:∃ y,(p1.flat 0)[2]? = some y:=⟨_,List.getElem?_eq_getElem (by omega)⟩
     cases q3:tagsB y4.c y4.t 0 [6] with
     | false => exact proper4_5 _ _ _ _ y0 y1 y2 y3 hy0 hy1 hy2 hy3 zero_mak q1.symm t1 q2.symm h5 y4 y5 hy4 hy5 q3.symm
     | true =>
     cases q4:tagsB y5.c y5.t 0 [6,5] with
     | false => exact proper4_6 _ _ _ _ y0 y1 y2 y3 hy0 hy1 hy2 hy3 zero_mak q1.symm t1 q2.symm h5 y4 y5 hy4 hy5 q3.symm q4.symm
     | true =>
     cases q5:tagsB y2.c y2.t 0 [4] with
     | false => exact proper4_7 _ _ _ _ y0 y1 y2 y3 hy0 hy1 hy2 hy3 zero_mak q1.symm t1 q2.symm h5 y4 y5 hy4 hy5 q3.symm q4.symm q5.symm
     | true =>
     obtain ⟨pt,hpt,hp5⟩:=tag_two y5 q4;have hback:=fun rest hl h3 => pk_back hok _ hp p0 p1 p2 rest hl (by rw [isB_some hy0,<- tag_is]; exact q1) (fun x hx => by
       rw [hy0] at hx;cases hx;have h7:=eq_of_beq t1;rw [toList_d] at h7;exact ba_ext h7) (by rw [isB_some hy1,<- tag_is]; exact q2) h5 (by rw [isB_some hy4,<- tag_is]; exact q3) pt hpt (by rw [isB_some hy5]; exact hp5) (by rw [isB_some hy2,<- tag_is]; exact q5) h3
     cases q6:tagsB y3.c y3.t 2 [0] with
     | false => exact proper4_8 _ _ _ _ y0 y1 y2 y3 hy0 hy1 hy2 hy3 zero_mak q1.symm t1 q2.symm h5 y4 y5 hy4 hy5 q3.symm q4.symm q5.symm q6.symm
     | true =>
     have c9:=proper4_9 _ _ _ _ y0 y1 y2 y3 hy0 hy1 hy2 hy3 zero_mak q1.symm t1 q2.symm h5 y4 y5 hy4 hy5 q3.symm q4.symm q5.symm q6.symm _ rfl
     by_cases h9:1 < ((p3.flat 0).length:Int)
     · refine absurd ?_ hn;obtain ⟨nm,pb,key,gs,h9,h8,-⟩:=hback [p3] rfl (Or.inr ⟨p3,rfl,by rw [isB_some hy3,<- tag_is]; exact q6,by omega⟩);exact ⟨nm,pt,pb,key,gs,h9,h8⟩
     · rw [decide_eq_false h9] at c9;exact c9
   · exact proper_0 _ (by rw [List.length_map]; exact h3) (by rw [List.length_map]; exact h4)
def pkP (nm:ByteArray) (pt:Nat) (pb key:ByteArray) (gs:List F):List (List Nd):=[[⟨0,2,false,⟨#[0]⟩,[]⟩],(algF nm pt pb).flat 0,[⟨0,4,false,key,[]⟩]] ++ (if gs = [] then [] else [(F.cons 2 0 (join gs) .nil).flat 0])
theorem pk_parts (nm:ByteArray) (pt:Nat) (pb key:ByteArray) (gs:List F):∃ ks,pkF nm pt pb key gs = .cons 0 16 ks .nil /\ (parts ks).map (fun p => p.flat 0) = pkP nm pt pb key gs:=by
 cases gs with
 | nil => exact ⟨_,rfl,rfl⟩
 | cons g l => exact ⟨_,rfl,by unfold pkP; rw [if_neg (by simp)]; rfl⟩
theorem join_cnt {g:F} {l:List F} (h:single g):1 <= (join (g :: l)).cnt:=by
 cases g with
 | nil => exact absurd h (by intro h; exact h)
 | prim c t d nx => show 1 <= 1 + _; omega
 | cons c t ks nx => show 1 <= 1 + _ + _; omega
theorem proper_yes (nm:ByteArray) (pt:Nat) (pb key:ByteArray) (gs:List F) (h:Pt nm pt pb gs):RdQ 70 (pkP nm pt pb key gs) true:=by
 have q4:true = tagsB (0:Int) (pt:Int) 0 [6,5]:=by rcases h.ptR with rfl | rfl <;> rfl
 cases gs with
 | nil => exact proper3_8 _ _ _ ⟨0,2,false,⟨#[0]⟩,[]⟩ ⟨0,16,true,⟨#[]⟩,(F.prim 0 6 nm (.prim 0 pt pb .nil)).tops 1⟩ ⟨0,4,false,key,[]⟩ rfl rfl rfl zero_mak rfl (by rw [toList_d]; rfl) rfl rfl ⟨0,6,false,nm,[]⟩ ⟨0,pt,false,pb,[]⟩ rfl rfl rfl q4 rfl
 | cons g l =>
   have e:pkP nm pt pb key (g :: l) = [[⟨0,2,false,⟨#[0]⟩,[]⟩],(algF nm pt pb).flat 0,[⟨0,4,false,key,[]⟩],(F.cons 2 0 (join (g :: l)) .nil).flat 0]:=by unfold pkP; rw [if_neg (by simp)]; rfl
   rw [e];have h1:=join_cnt (l:=l) (h.gsR g (by simp)).1;have hc:(F.cons 2 0 (join (g :: l)) .nil).cnt = 1 + (join (g :: l)).cnt + 0:=rfl;exact proper4_9 _ _ _ _ ⟨0,2,false,⟨#[0]⟩,[]⟩ ⟨0,16,true,⟨#[]⟩,(F.prim 0 6 nm (.prim 0 pt pb .nil)).tops 1⟩ ⟨0,4,false,key,[]⟩ ⟨2,0,true,⟨#[]⟩,(join (g :: l)).tops 1⟩ rfl rfl rfl rfl zero_mak rfl (by rw [toList_d]; rfl) rfl rfl ⟨0,6,false,nm,[]⟩ ⟨0,pt,false,pb,[]⟩ rfl rfl rfl q4 rfl rfl true (decide_eq_true (by rw [F.flat_len]; omega)).symm
end Pk
end Go.Proofs.YtpanhhjkecebkaaGreat
