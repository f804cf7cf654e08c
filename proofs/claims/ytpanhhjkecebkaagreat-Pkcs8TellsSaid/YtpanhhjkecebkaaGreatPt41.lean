import Derived.Test.YtpanhhjkecebkaaGreatPt40
import Derived.Test.YtpanhhjkecebkaaGreatPt17
set_option maxRecDepth 100000
namespace Go.Proofs.YtpanhhjkecebkaaGreat
namespace Tree
open Tlv
theorem dec_okF (R:Int -> ByteArray -> Bool) (s:ByteArray):∀ (f p e deep cnt:Nat) (g:F),dec R s f p e deep cnt = .ok g -> okF R g /\ (g.deep = 0 ∨ deep + g.deep <= 17) /\ (g.cnt = 0 ∨ cnt + g.cnt <= 1000):=by
 intro f
 induction f with
 | zero => intro p e deep cnt g h; cases h
 | succ f ih =>
   intro p e deep cnt g h;unfold dec at h
   split at h
   · cases h;exact ⟨trivial,.inl rfl,.inl rfl⟩
   · cases hl:Tlv.look R s p e deep cnt with
     | error c => rw [hl] at h; cases h
     | ok x =>
       obtain ⟨hd,k⟩:=x;have hk:=look_ok hl;have k1:=hk.c3;have k2:=hk.tm;have k3:=hk.deep;have k4:=hk.cnt;have k5:=hk.form;rw [hl] at h;simp only at h;unfold formB at k5
       split at h
       · rename_i hb
         rw [if_pos hb] at k5;simp only [Bool.or_eq_true,decide_eq_true_eq] at k5;cases hq:dec R s f (p + k) (p + k + hd.n) (deep + 1) (cnt + 1) with
         | error x => rw [hq] at h; cases h
         | ok ks =>
           rw [hq] at h;simp only at h;cases hq2:dec R s f (p + k + hd.n) e deep (cnt + 1 + ks.cnt) with
           | error x => rw [hq2] at h; cases h
           | ok nx =>
             rw [hq2] at h;cases h;obtain ⟨a1,a2,a3⟩:=ih _ _ _ _ _ hq;obtain ⟨b1,b2,b3⟩:=ih _ _ _ _ _ hq2;refine ⟨⟨k1,k2, ?_,a1,b1⟩,.inr ?_,.inr ?_⟩
             · rcases k5 with k5 | k5 | k5
               · exact .inl k5
               · exact .inr (.inl k5)
               · exact .inr (.inr k5)
             · show deep + max (ks.deep + 1) nx.deep <= 17
               omega
             · show cnt + (1 + ks.cnt + nx.cnt) <= 1000
               omega
       · rename_i hb
         rw [if_neg hb] at k5;simp only [Bool.or_eq_true,decide_eq_true_eq] at k5;cases hq:dec R s f (p + k + hd.n) e deep (cnt + 1) with
         | error x => rw [hq] at h; cases h
         | ok nx =>
           rw [hq] at h;cases h;obtain ⟨a1,a2,a3⟩:=ih _ _ _ _ _ hq;refine ⟨⟨k1,k2, ?_,a1⟩,.inr ?_,.inr ?_⟩
           · rcases k5 with k5 | k5
             · exact .inl k5
             · exact .inr k5
           · show deep + max 1 nx.deep <= 17
             omega
           · show cnt + (1 + nx.cnt) <= 1000
             omega
theorem one_single {R:Int -> ByteArray -> Bool} {s:ByteArray} {p e deep cnt q:Nat} {g:F} (h:Tlv.one R s p e deep cnt = .ok (g,q)):single g:=by
 unfold Tlv.one at h;cases hl:Tlv.look R s p e deep cnt with
 | error c => rw [hl] at h; cases h
 | ok x =>
   obtain ⟨hd,k⟩:=x;rw [hl] at h;simp only at h
   split at h
   · cases hq:decA R s (p + k) (p + k + hd.n) (deep + 1) (cnt + 1) with
     | error x => rw [hq] at h; cases h
     | ok ks => rw [hq] at h; cases h; rfl
   · cases h; rfl
theorem decA_nilq {R:Int -> ByteArray -> Bool} {s:ByteArray} {p e deep cnt:Nat} (h:decA R s p e deep cnt = .ok .nil):e <= p:=by
 by_cases hp:p < e
 · rw [decA_step R s p e deep cnt hp] at h;cases hl:Tlv.look R s p e deep cnt with
   | error c => rw [hl] at h; cases h
   | ok x =>
     obtain ⟨hd,k⟩:=x;rw [hl] at h;simp only at h
     split at h
     · cases hq:decA R s (p + k) (p + k + hd.n) (deep + 1) (cnt + 1) with
       | error x => rw [hq] at h; cases h
       | ok ks =>
         rw [hq] at h;simp only at h;cases hq2:decA R s (p + k + hd.n) e deep (cnt + 1 + ks.cnt) with
         | error x => rw [hq2] at h; cases h
         | ok nx => rw [hq2] at h; cases h
     · cases hq:decA R s (p + k + hd.n) e deep (cnt + 1) with
       | error x => rw [hq] at h; cases h
       | ok nx => rw [hq] at h; cases h
 · omega
theorem app_single {g1 nx g:F} (h:g1.app nx = g) (h1:single g1) (h2:single g):nx = .nil /\ g1 = g:=by
 cases g1 with
 | nil => exact absurd h1 (by intro h; exact h)
 | prim c t d n1 =>
   cases (show n1 = .nil from h1);subst h;have h3:nx = .nil:=h2;subst h3;exact ⟨rfl,rfl⟩
 | cons c t ks n1 =>
   cases (show n1 = .nil from h1);subst h;have h3:nx = .nil:=h2;subst h3;exact ⟨rfl,rfl⟩
theorem top_is {R:Int -> ByteArray -> Bool} {s:ByteArray} {g:F} (h:top R s = .ok g):IsT R (g.flat 0) g /\ g.enc = s.data.toList:=by
 obtain ⟨h0,h1⟩:=top_some h;unfold top at h;rw [if_neg (by omega),if_neg (by omega)] at h;cases ho:Tlv.one R s 0 s.size 1 0 with
 | error x => rw [ho] at h; cases h
 | ok y =>
   obtain ⟨g1,q⟩:=y;rw [ho] at h;simp only at h
   split at h
   · cases h
   · rename_i hq
     cases h;have hd:=decA_one R s 0 s.size 1 0 h0;rw [ho] at hd;simp only at hd;rw [decA_nil R s q s.size 1 _ (by omega)] at hd;simp only [F.app_nil] at hd;unfold decA at hd;obtain ⟨a1,a2,a3⟩:=dec_okF R s _ _ _ _ _ _ hd;have hs:=one_single ho;have he:=Tlv.dec_enc R s _ 0 s.size 1 0 g (Nat.zero_le _) (Nat.le_refl _) hd;have hx:s.extract 0 s.size = s:=by simp
     rw [hx] at he;exact ⟨⟨a1,hs,rfl,by omega,by rw [F.flat_len]; omega⟩,he⟩
theorem enc_two {g:F} (h:single g):2 <= g.enc.length:=F.enc_pos g (fun e => by rw [e] at h; exact h)
theorem top_enc {R:Int -> ByteArray -> Bool} {N:List Nd} {g:F} (h:IsT R N g) (hl:g.enc.length <= 65535):top R (bs g.enc) = .ok g:=by
 have h2:=enc_two h.one;have hsz:(bs g.enc).size = g.enc.length:=size_bs _;have hc:g.cnt <= 1000:=by have:=h.len; rw [h.flat,F.flat_len] at this; exact this
 have hx:(bs g.enc).extract 0 (bs g.enc).size = bs g.enc:=by simp
 have hd:=dec_of R (bs g.enc) g ((bs g.enc).size - 0 + 1) 0 (bs g.enc).size 1 0 h.ok (by rw [hx]; rfl) (Nat.le_refl _) (Nat.zero_le _) (by have:=h.deep; omega) (by omega) (by omega) hl;have hd2:decA R (bs g.enc) 0 (bs g.enc).size 1 0 = .ok g:=hd;rw [decA_one R _ 0 _ 1 0 (by omega)] at hd2;unfold top;rw [if_neg (by omega),if_neg (by omega)];cases ho:Tlv.one R (bs g.enc) 0 (bs g.enc).size 1 0 with
 | error x => rw [ho] at hd2; cases hd2
 | ok y =>
   obtain ⟨g1,q⟩:=y;rw [ho] at hd2;simp only at hd2 ⊢;cases hq:decA R (bs g.enc) q (bs g.enc).size 1 (0 + g1.cnt) with
   | error x => rw [hq] at hd2; cases hd2
   | ok nx =>
     rw [hq] at hd2;simp only [Except.ok.injEq] at hd2;obtain ⟨rfl,rfl⟩:=app_single hd2 (one_single ho) h.one;have:=decA_nilq hq;rw [if_neg (by omega)]
end Tree
end Go.Proofs.YtpanhhjkecebkaaGreat
namespace Go.Proofs.YtpanhhjkecebkaaGreat
namespace Pk
open Tlv Tree Strs
theorem flat_pre (f:F):∀ (g:F) (i:Nat) (A B:List Nd),f.flat i ++ A = g.flat i ++ B -> f.tops i = g.tops i -> f = g /\ A = B:=by
 induction f with
 | nil =>
   intro g i A B h ht;cases g with
   | nil => exact ⟨rfl,h⟩
   | prim c t d nx => cases ht
   | cons c t ks nx => cases ht
 | prim c t d nx ih =>
   intro g i A B h ht;cases g with
   | nil => cases ht
   | prim c' t' d' nx' =>
     have h1:(⟨c,t,false,d,[]⟩:Nd) :: (nx.flat (i + 1) ++ A) = (⟨c',t',false,d',[]⟩:Nd) :: (nx'.flat (i + 1) ++ B):=h;have h2:(i:Int) :: nx.tops (i + 1) = (i:Int) :: nx'.tops (i + 1):=ht;obtain ⟨e1,e2⟩:=List.cons.inj h1;obtain ⟨-,e3⟩:=List.cons.inj h2;injection e1 with a1 a2 _ a4
     obtain ⟨rfl,e5⟩:=ih nx' (i + 1) A B e2 e3;have b1:c = c':=by omega
     have b2:t = t':=by omega
     rw [b1,b2,a4];exact ⟨rfl,e5⟩
   | cons c' t' ks' nx' =>
     have h1:(⟨c,t,false,d,[]⟩:Nd) :: (nx.flat (i + 1) ++ A) = (⟨c',t',true,⟨#[]⟩,ks'.tops (i + 1)⟩:Nd) :: ((ks'.flat (i + 1) ++ nx'.flat (i + 1 + ks'.cnt)) ++ B):=h;obtain ⟨e1,-⟩:=List.cons.inj h1;injection e1 with _ _ a3
     cases a3
 | cons c t ks nx ih1 ih2 =>
   intro g i A B h ht;cases g with
   | nil => cases ht
   | prim c' t' d' nx' =>
     have h1:(⟨c,t,true,⟨#[]⟩,ks.tops (i + 1)⟩:Nd) :: ((ks.flat (i + 1) ++ nx.flat (i + 1 + ks.cnt)) ++ A) = (⟨c',t',false,d',[]⟩:Nd) :: (nx'.flat (i + 1) ++ B):=h;obtain ⟨e1,-⟩:=List.cons.inj h1;injection e1 with _ _ a3
     cases a3
   | cons c' t' ks' nx' =>
     have h1:(⟨c,t,true,⟨#[]⟩,ks.tops (i + 1)⟩:Nd) :: ((ks.flat (i + 1) ++ nx.flat (i + 1 + ks.cnt)) ++ A) = (⟨c',t',true,⟨#[]⟩,ks'.tops (i + 1)⟩:Nd) :: ((ks'.flat (i + 1) ++ nx'.flat (i + 1 + ks'.cnt)) ++ B):=h;have h2:(i:Int) :: nx.tops (i + 1 + ks.cnt) = (i:Int) :: nx'.tops (i + 1 + ks'.cnt):=ht;obtain ⟨e1,e2⟩:=List.cons.inj h1;obtain ⟨-,e3⟩:=List.cons.inj h2;injection e1 with a1 a2 _ _ a5
     rw [List.append_assoc,List.append_assoc] at e2;obtain ⟨rfl,e5⟩:=ih1 ks' (i + 1) _ _ e2 a5;obtain ⟨rfl,e6⟩:=ih2 nx' _ A B e5 e3;have b1:c = c':=by omega
     have b2:t = t':=by omega
     rw [b1,b2];exact ⟨rfl,e6⟩
theorem flat_inj {f g:F} (hf:single f) (hg:single g) (h:f.flat 0 = g.flat 0):f = g :=
 (flat_pre f g 0 [] [] (by rw [h]) (by rw [single_tops hf,single_tops hg])).1
def atsF:List F -> F
 | [] => .nil
 | g :: l => .cons 2 0 (join (g :: l)) .nil
def algF (nm:ByteArray) (pt:Nat) (pb:ByteArray):F:=.cons 0 16 (.prim 0 6 nm (.prim 0 pt pb .nil)) .nil
def pkF (nm:ByteArray) (pt:Nat) (pb key:ByteArray) (gs:List F):F:=.cons 0 16 (.prim 0 2 ⟨#[0]⟩ (.cons 0 16 (.prim 0 6 nm (.prim 0 pt pb .nil)) (.prim 0 4 key (atsF gs)))) .nil
def pkN (nm:ByteArray) (pt:Nat) (pb key:ByteArray) (gs:List F):List Nd:=(pkF nm pt pb key gs).flat 0
theorem ok_app {R:Int -> ByteArray -> Bool} (f g:F) (h1:okF R f) (h2:okF R g):okF R (f.app g):=by
 induction f with
 | nil => exact h2
 | prim c t d nx ih => exact ⟨h1.1,h1.2.1,h1.2.2.1,ih h1.2.2.2⟩
 | cons c t ks nx _ ih => exact ⟨h1.1,h1.2.1,h1.2.2.1,h1.2.2.2.1,ih h1.2.2.2.2⟩
theorem ok_join {R:Int -> ByteArray -> Bool} (gs:List F) (h:∀ g ∈ gs,okF R g):okF R (join gs):=by
 induction gs with
 | nil => exact trivial
 | cons g l ih => exact ok_app g _ (h g (List.mem_cons_self ..)) (ih fun x hx => h x (List.mem_cons_of_mem _ hx))
structure Pt (nm:ByteArray) (pt:Nat) (pb:ByteArray) (gs:List F):Prop where
 nmR:rightB 6 nm = true
 ptR:pt = 5 ∨ pt = 6
 pbR:rightB (pt:Int) pb = true
 gsR:∀ g ∈ gs,single g /\ okF rightB g
theorem ats_ok {gs:List F} (h:∀ g ∈ gs,single g /\ okF rightB g):okF rightB (atsF gs):=by
 cases gs with
 | nil => exact trivial
 | cons g l => exact ⟨by omega,by omega,Or.inl (by omega),ok_join _ fun x hx => (h x hx).2,trivial⟩
theorem pk_ok {nm:ByteArray} {pt:Nat} {pb:ByteArray} {gs:List F} (key:ByteArray) (h:Pt nm pt pb gs):okF rightB (pkF nm pt pb key gs):=by
 have h2:rightB 2 ⟨#[0]⟩ = true:=by decide +kernel
 have hp:pt <= 2097151:=by rcases h.ptR with h | h <;> omega
 exact ⟨by omega,by omega,Or.inr (Or.inl rfl),⟨by omega,by omega,Or.inr h2,by omega,by omega,Or.inr (Or.inl rfl),⟨by omega,by omega,Or.inr h.nmR,by omega,hp,Or.inr h.pbR,trivial⟩,by omega,by omega,Or.inr rfl,ats_ok h.gsR⟩,trivial⟩
theorem pk_is {nm:ByteArray} {pt:Nat} {pb key:ByteArray} {gs:List F} (h:rigB rightB (pkN nm pt pb key gs) = true):IsT rightB (pkN nm pt pb key gs) (pkF nm pt pb key gs):=by
 obtain ⟨g,hg⟩:=right_is h;have e:pkF nm pt pb key gs = g:=flat_inj (show single (pkF nm pt pb key gs) from rfl) hg.one hg.flat;rw [e];exact hg
def isB (N:List Nd) (j:Nat) (c t:Int):Bool:=match N[j]? with | some x => decide (x.c = c) && decide (x.t = t) | none => false
theorem isB_some {N:List Nd} {j:Nat} {c t:Int} {x:Nd} (h:N[j]? = some x):isB N j c t = (decide (x.c = c) && decide (x.t = t)):=by
 unfold isB; rw [h]
theorem prim_of {p:F} {c t:Nat} (hs:single p) (ho:okF rightB p) (h:isB (p.flat 0) 0 c t = true) (hc:c = 0) (ht:t ≠ 16) (ht2:t ≠ 17):∃ d,p = .prim 0 t d .nil /\ rightB (t:Int) d = true:=by
 subst hc;cases p with
 | nil => exact absurd hs (by intro h; exact h)
 | prim c' t' d nx =>
   cases (show nx = .nil from hs);have h':(decide ((c':Int) = ((0:Nat):Int)) && decide ((t':Int) = (t:Int))) = true:=h;rw [Bool.and_eq_true,decide_eq_true_eq,decide_eq_true_eq] at h';obtain rfl:c' = 0:=by omega
   obtain rfl:t' = t:=by omega
   refine ⟨d,rfl, ?_⟩;rcases ho.2.2.1 with h3 | h3
   · exact absurd rfl h3
   · exact h3
 | cons c' t' ks nx =>
   have h':(decide ((c':Int) = ((0:Nat):Int)) && decide ((t':Int) = (t:Int))) = true:=h;rw [Bool.and_eq_true,decide_eq_true_eq,decide_eq_true_eq] at h';rcases ho.2.2.1 with h3 | h3 | h3 <;> omega
theorem first_prim {k:F} {t:Nat} {N:List Nd} {j i:Nat} (ho:okF rightB k) (hN:∃ A,N = A ++ k.flat i /\ A.length = j) (h:isB N j 0 t = true) (ht:t ≠ 16) (ht2:t ≠ 17):∃ d nx,k = .prim 0 t d nx /\ rightB (t:Int) d = true:=by
 obtain ⟨A,rfl,hA⟩:=hN;cases k with
 | nil =>
   unfold isB at h;rw [show (A ++ F.nil.flat i)[j]? = none from List.getElem?_eq_none (by rw [List.length_append]; show A.length + 0 <= j; omega)] at h;cases h
 | prim c' t' d nx =>
   rw [isB_some (x:=⟨c',t',false,d,[]⟩) (by rw [List.getElem?_append_right (by omega),hA,Nat.sub_self]; rfl),Bool.and_eq_true,decide_eq_true_eq,decide_eq_true_eq] at h;have h1:(c':Int) = 0:=h.1;have h2:(t':Int) = (t:Int):=h.2;obtain rfl:c' = 0:=by omega
   obtain rfl:t' = t:=by omega
   refine ⟨d,nx,rfl, ?_⟩;rcases ho.2.2.1 with h3 | h3
   · exact absurd rfl h3
   · exact h3
 | cons c' t' ks nx =>
   rw [isB_some (x:=⟨c',t',true,⟨#[]⟩,ks.tops (i + 1)⟩) (by rw [List.getElem?_append_right (by omega),hA,Nat.sub_self]; rfl),Bool.and_eq_true,decide_eq_true_eq,decide_eq_true_eq] at h;have h1:(c':Int) = 0:=h.1;have h2:(t':Int) = (t:Int):=h.2;rcases ho.2.2.1 with h3 | h3 | h3 <;> omega
theorem alg_back {p:F} (hs:single p) (ho:okF rightB p) (h0:isB (p.flat 0) 0 0 16 = true) (hl:(p.flat 0).length = 3) (h1:isB (p.flat 0) 1 0 6 = true) (pt:Nat) (hpt:pt = 5 ∨ pt = 6) (h2:isB (p.flat 0) 2 0 pt = true) :
   ∃ nm pb,p = algF nm pt pb /\ rightB 6 nm = true /\ rightB (pt:Int) pb = true:=by
 cases p with
 | nil => exact absurd hs (by intro h; exact h)
 | prim c' t' d nx =>
   cases (show nx = .nil from hs);exact absurd hl (by show ¬ 1 = 3; omega)
 | cons c' t' k nx =>
   cases (show nx = .nil from hs);have h':(decide ((c':Int) = (0:Int)) && decide ((t':Int) = (16:Int))) = true:=h0;rw [Bool.and_eq_true,decide_eq_true_eq,decide_eq_true_eq] at h';obtain rfl:c' = 0:=by omega
   obtain rfl:t' = 16:=by omega
   have okk:okF rightB k:=ho.2.2.2.1;have hN:(F.cons 0 16 k .nil).flat 0 = (⟨0,16,true,⟨#[]⟩,k.tops 1⟩:Nd) :: (k.flat 1 ++ []):=rfl;rw [List.append_nil] at hN;rw [hN,List.length_cons,F.flat_len] at hl;obtain ⟨nm,nx,rfl,hr⟩:=first_prim (t:=6) okk ⟨[⟨0,16,true,⟨#[]⟩,k.tops 1⟩],hN,rfl⟩ h1 (by omega) (by omega);have hl2:1 + nx.cnt + 1 = 3:=hl;have hN2:(F.cons 0 16 (.prim 0 6 nm nx) .nil).flat 0 = [(⟨0,16,true,⟨#[]⟩,(F.prim 0 6 nm nx).tops 1⟩:Nd),⟨0,6,false,nm,[]⟩] ++ nx.flat 2:=by
     rw [hN]; rfl
   obtain ⟨pb,n2,rfl,hr2⟩:=first_prim (t:=pt) okk.2.2.2 ⟨_,hN2,rfl⟩ h2 (by rcases hpt with h | h <;> omega) (by rcases hpt with h | h <;> omega);have hl3:1 + (1 + n2.cnt) + 1 = 3:=hl2;have hn:n2 = .nil:=by
     cases n2 with
     | nil => rfl
     | prim _ _ _ n3 => have:1 + (1 + (1 + n3.cnt)) + 1 = 3:=hl3; omega
     | cons _ _ k3 n3 => have:1 + (1 + (1 + k3.cnt + n3.cnt)) + 1 = 3:=hl3; omega
   subst hn;exact ⟨nm,pb,rfl,hr,hr2⟩
theorem ats_back {p:F} (hs:single p) (ho:okF rightB p) (h0:isB (p.flat 0) 0 2 0 = true) (hl:1 < (p.flat 0).length):∃ gs,p = atsF gs /\ gs ≠ [] /\ ∀ g ∈ gs,single g /\ okF rightB g:=by
 cases p with
 | nil => exact absurd hs (by intro h; exact h)
 | prim c' t' d nx =>
   cases (show nx = .nil from hs);exact absurd hl (by show ¬ 1 < 1; omega)
 | cons c' t' k nx =>
   cases (show nx = .nil from hs);have h':(decide ((c':Int) = (2:Int)) && decide ((t':Int) = (0:Int))) = true:=h0;rw [Bool.and_eq_true,decide_eq_true_eq,decide_eq_true_eq] at h';obtain rfl:c' = 2:=by omega
   obtain rfl:t' = 0:=by omega
   have okk:okF rightB k:=ho.2.2.2.1;have hj:=join_parts k;have hgs:∀ g ∈ parts k,single g /\ okF rightB g:=fun g hg => by
     obtain ⟨j,hj2⟩:=List.mem_iff_getElem?.1 hg;obtain ⟨s1,o1,-⟩:=parts_at rightB k 0 j g okk hj2;exact ⟨s1,o1⟩
   cases hp:parts k with
   | nil =>
     rw [hp] at hj;have hk:k = .nil:=hj.symm;rw [hk] at hl;exact absurd hl (by show ¬ 1 < 1; omega)
   | cons g l =>
     rw [hp] at hj hgs;exact ⟨g :: l,by show F.cons 2 0 k .nil = F.cons 2 0 (join (g :: l)) .nil; rw [hj],by simp,hgs⟩
theorem pk_back {ks:F} (ho:okF rightB ks) (P:List F) (hP:parts ks = P) (p0 p1 p2:F) (rest:List F) (hl:P = p0 :: p1 :: p2 :: rest)
   (h0:isB (p0.flat 0) 0 0 2 = true) (hd:∀ x,(p0.flat 0)[0]? = some x -> x.d = ⟨#[0]⟩) (h1:isB (p1.flat 0) 0 0 16 = true) (h1l:(p1.flat 0).length = 3) (h1a:isB (p1.flat 0) 1 0 6 = true) (pt:Nat) (hpt:pt = 5 ∨ pt = 6) (h1b:isB (p1.flat 0) 2 0 pt = true) (h2:isB (p2.flat 0) 0 0 4 = true)
   (h3:rest = [] ∨ ∃ p3,rest = [p3] /\ isB (p3.flat 0) 0 2 0 = true /\ 1 < (p3.flat 0).length) :
   ∃ nm pb key gs,F.cons 0 16 ks .nil = pkF nm pt pb key gs /\ Pt nm pt pb gs /\ (rest = [] ↔ gs = []):=by
 subst hl;obtain ⟨s0,o0,-⟩:=parts_at rightB ks 0 0 p0 ho (by rw [hP]; rfl);obtain ⟨s1,o1,-⟩:=parts_at rightB ks 0 1 p1 ho (by rw [hP]; rfl);obtain ⟨s2,o2,-⟩:=parts_at rightB ks 0 2 p2 ho (by rw [hP]; rfl);obtain ⟨d,rfl,-⟩:=prim_of (c:=0) (t:=2) s0 o0 h0 rfl (by omega) (by omega);obtain rfl:d = ⟨#[0]⟩:=hd _ rfl;obtain ⟨nm,pb,rfl,r1,r2⟩:=alg_back s1 o1 h1 h1l h1a pt hpt h1b;obtain ⟨key,rfl,-⟩:=prim_of (c:=0) (t:=4) s2 o2 h2 rfl (by omega) (by omega);have hj:=join_parts ks;rw [hP] at hj;rcases h3 with rfl | ⟨p3,rfl,h3a,h3b⟩
 · exact ⟨nm,pb,key,[],by rw [<- hj]; rfl,⟨r1,hpt,r2,by simp⟩,by simp⟩
 · obtain ⟨s3,o3,-⟩:=parts_at rightB ks 0 3 p3 ho (by rw [hP]; rfl);obtain ⟨gs,rfl,hne,hgs⟩:=ats_back s3 o3 h3a h3b;refine ⟨nm,pb,key,gs, ?_,⟨r1,hpt,r2,hgs⟩,by simp [hne]⟩;rw [<- hj];cases gs with
   | nil => exact absurd rfl hne
   | cons g l => rfl
end Pk
end Go.Proofs.YtpanhhjkecebkaaGreat
namespace Go.Proofs.YtpanhhjkecebkaaGreat
open Go.RowKit
namespace Tlv
open Span Flt Rw
def pcsF (s:ByteArray):Nat -> Nat -> Except (Nat × Nat) (List ByteArray)
 | 0,p => .error (5,p)
 | f + 1,p => if s.size <= p then .ok [] else
   match Head.dec (s.extract p s.size).data.toList with
   | (h,k,x) => if x ≠ 0 then .error (x,p) else if s.size - p < k + h.n then .error (5,p) else
     match pcsF s f (p + (k + h.n)) with
     | .error y => .error y
     | .ok l => .ok (s.extract p (p + (k + h.n)) :: l)
def prepE (L:List ByteArray):Except (Nat × Nat) (List ByteArray) -> Except (Nat × Nat) (List ByteArray)
 | .error y => .error y
 | .ok l => .ok (L ++ l)
def pcsV (s:ByteArray):Nat × Nat × List ByteArray :=
 if 65535 < s.size then (4,0,[]) else
 match pcsF s (s.size + 1) 0 with
 | .error (c,p) => (c,p,[])
 | .ok l => (0,0,l)
theorem pcs_end (s:ByteArray) (f p:Nat) (L:List ByteArray) (h:s.size <= p):prepE L (pcsF s (f + 1) p) = .ok L:=by
 unfold pcsF;rw [if_pos h]
 show Except.ok (L ++ []) = _
 rw [List.append_nil]
theorem pcs_bad (s:ByteArray) (f p:Nat) (L:List ByteArray) (h:¬ s.size <= p) (hh:Head.Hd) (k x:Nat) (hq:Head.dec (s.extract p s.size).data.toList = (hh,k,x)) (hx:x ≠ 0):prepE L (pcsF s (f + 1) p) = .error (x,p):=by
 unfold pcsF;rw [if_neg h,hq];dsimp only;rw [if_pos hx];rfl
theorem pcs_far (s:ByteArray) (f p:Nat) (L:List ByteArray) (h:¬ s.size <= p) (hh:Head.Hd) (k:Nat) (hq:Head.dec (s.extract p s.size).data.toList = (hh,k,0)) (hx:s.size - p < k + hh.n):prepE L (pcsF s (f + 1) p) = .error (5,p):=by
 unfold pcsF;rw [if_neg h,hq];dsimp only;rw [if_neg (by decide),if_pos hx];rfl
theorem pcs_one (s:ByteArray) (f p:Nat) (L:List ByteArray) (h:¬ s.size <= p) (hh:Head.Hd) (k:Nat) (hq:Head.dec (s.extract p s.size).data.toList = (hh,k,0)) (hx:¬ s.size - p < k + hh.n):prepE L (pcsF s (f + 1) p) = prepE (L ++ [s.extract p (p + (k + hh.n))]) (pcsF s f (p + (k + hh.n))):=by
 conv => lhs; unfold pcsF
 rw [if_neg h,hq];dsimp only;rw [if_neg (by decide),if_neg hx];cases pcsF s f (p + (k + hh.n)) with
 | error y => rfl
 | ok l =>
   show Except.ok (L ++ (_ :: l)) = Except.ok ((L ++ [_]) ++ l)
   rw [List.append_assoc];rfl
def PPost (w:World) (T:Except (Nat × Nat) (List ByteArray)) (e:Ending) (w':World):Prop :=
 match T with
 | .error (c,p) => e = .returned (.tuple #[.slice none 0 0,.agg (F2 (c:Int) (p:Int))]) /\ Since w w'
 | .ok l => ∃ v,e = .returned (.tuple #[v,.agg (F2 0 0)]) /\ StrsS w' v l /\ Since w w'
def PcR (f:Nat) (s:ByteArray) (C P:Int) (L:List ByteArray):Prop:=∀ w,Calls Tryz.prog f #[.string s] w fun e w' => ∃ v,e = .returned (.tuple #[v,.agg (F2 C P)]) /\ StrsS w' v L /\ Since w w'
theorem strs_own {w:World} {base:Nat} {v:Value} {L:List ByteArray} (h:w.ownsRow base 9 1 v L.length (L.map Value.string)):StrsS w v L:=SlR.own h
set_option maxHeartbeats 8000000 in
theorem pieces_t (s:ByteArray) (hs:s.size <= 65535) (T:Except (Nat × Nat) (List ByteArray)) (hT:pcsF s (s.size + 1) 0 = T) (w:World):Calls Tryz.prog 43 #[.string s] w (PPost w T):=by
 have h1:decide ((65535:Int) < (s.size:Int)) = false:=decide_eq_false (by omega);have h2:decide (65535 < s.size) = false:=decide_eq_false (by omega);obtain ⟨z,hz⟩:∃ z:Nat,z = 0:=⟨_,rfl⟩
 have c0:Ret 82 #[.int .i64 0,.int .i64 (s.size:Int)] (.complex .f64 (fl (z:Int)) (fl (s.size:Int))):=by rw [hz]; exact of_yes 0 s.size ⟨by omega,by omega⟩
 have HT:Hid (prepE [] (pcsF s (s.size + 1) z) = T):=lH (by rw [hz,hT]; cases T <;> rfl);have Hz:=lH hz;have hr0:Hid (HR w w.heap.size (F2 0 0) 65 (w.alloc (.cells (F2 0 0) 65))):=lH ⟨heap_alloc_new w _⟩;have HR0:Hid ((w.alloc (.cells #[.int .i64 0,.int .i64 0] 65)).ownsRow (w.alloc (.cells #[.int .i64 0,.int .i64 0] 65)).heap.size 9 1 (.slice none 0 0) ([]:List ByteArray).length (([]:List ByteArray).map Value.string)):=lH (World.ownsRow_nil _ _ _ _);have HS0:Hid (Since (w.alloc (.cells #[.int .i64 0,.int .i64 0] 65)) (w.alloc (.cells #[.int .i64 0,.int .i64 0] 65))):=lH (Since.refl _);clear hz hT;unfold F2 at hr0
 go_enter Tryz.func43,Tryz.ntmps43
 go_wp2_with fail;refine c0.calls ?_;go_wp2_with fail;go_loopw [4,5] (fun lv rv wr => ∃ (p f:Nat) (L:List ByteArray) (A:Option Addr) (cc:Nat),p <= s.size /\ lv = .slice A L.length cc /\ rv = .complex .f64 (fl (p:Int)) (fl (s.size:Int)) /\ Hid (L.length <= p) /\ Hid (s.size - p < f) /\ Hid (prepE L (pcsF s f p) = T) /\ Hid (wr.ownsRow (w.alloc (.cells #[.int .i64 0,.int .i64 0] 65)).heap.size 9 1 lv L.length (L.map Value.string)) /\ Hid (Since (w.alloc (.cells #[.int .i64 0,.int .i64 0] 65)) wr)) (fun lv _ _ => s.size + 1 - lenOf lv)
 case atStart => exact ⟨z,s.size + 1,[],none,0,by rw [Hz.out]; exact Nat.zero_le _,rfl,rfl,lH (Nat.zero_le _),lH (by omega),HT,HR0,HS0⟩
 case round =>
   clear HT Hz HR0 HS0 hr0;obtain ⟨p,f,L,A,cc,hp,rfl,rfl,HLp,HF,HT,HRo,HS⟩:=hrel;have c1:=from_ret p s.size ⟨hp,by omega⟩;have c2:=to_ret p s.size ⟨hp,by omega⟩;obtain ⟨f,rfl⟩:∃ f',f = f' + 1:=⟨f - 1,by have:=HF.out; omega⟩
   by_cases hlt:p < s.size
   · have t1:decide ((p:Int) < (s.size:Int)) = true:=decide_eq_true (by omega);have t2:decide (p < s.size) = true:=decide_eq_true hlt;have hpn:¬ s.size <= p:=by omega
     have c3:=meas_mak s p s.size hp (Nat.le_refl _) hs;obtain ⟨hh,k,x,hq⟩:∃ hh k x,Head.dec (s.extract p s.size).data.toList = (hh,k,x):=⟨_,_,_,rfl⟩
     unfold measV at c3;rw [hq] at c3;dsimp only at c3
     by_cases hx:x ≠ 0
     · rw [if_pos hx] at c3;obtain ⟨X,hX⟩:∃ X:Int,X = (x:Int):=⟨_,rfl⟩
       rw [<- hX] at c3;have hX0:(X != 0) = true:=by rw [bne_iff_ne]; omega
       have hW:∀ w',Since w w' -> PPost w T (.returned (.tuple #[.slice none 0 0,.agg (F2 X (p:Int))])) w':=by
         intro w' h;rw [<- HT.out,pcs_bad s f p L hpn hh k x hq hx,hX];exact ⟨rfl,h⟩
       have HW:=lH hW;clear hW hX hx hq HT HF HLp HRo;go_wp2_with fail;refine c1.calls ?_;go_wp2_with fail;refine c2.calls ?_;go_wp2_with fail;refine c3.calls0 ?_;intro w1 h1;have HS1:=lH ((HS.out.step h1).alloc (.cells Z4 115));clear h1;have hr0:=lH (HR.step (w:=w) ⟨heap_alloc_new w (.cells #[.int .i64 0,.int .i64 0] 65)⟩ HS1.out);have HSw:=lH ((Since.alloc (Since.refl w) _).step HS1.out);unfold Z4 at hr0 HSw ⊢;go_wp2_with fail;refine c1.calls ?_;go_wp2_with (refine wpList_store_row rfl 65 _ _ rfl w.heap.size (F2 X (p:Int)) (by rfl) (by rfl) _ _ hr0.out.row (f2_info X (p:Int)) rfl (f2_one X (p:Int)) ?_)
       exact bodyPost_ret (v:=.tuple #[.slice none 0 0,.agg (F2 X (p:Int))]) (results_t_cell Tryz.results43 _ _ _ _ _ _ _ _ rfl rfl (setRow_heap _ _ _ _ _ _ hr0.out.row) Tryz.underlying65 rfl (f2_info X (p:Int))) rfl (HW.out _ (below_setRow HSw.out (Nat.le_refl _) _))
     rw [if_neg hx] at c3;obtain rfl:x = 0:=by omega
     by_cases hf:s.size - p < k + hh.n
     · rw [if_pos hf] at c3;obtain ⟨X,hX⟩:∃ X:Int,X = 5:=⟨_,rfl⟩
       rw [<- hX] at c3;have hX0:(X != 0) = true:=by rw [bne_iff_ne]; omega
       have hW:∀ w',Since w w' -> PPost w T (.returned (.tuple #[.slice none 0 0,.agg (F2 X (p:Int))])) w':=by
         intro w' h;rw [<- HT.out,pcs_far s f p L hpn hh k hq hf,hX];exact ⟨rfl,h⟩
       have HW:=lH hW;clear hW hX hx hq HT HF HLp HRo hf;go_wp2_with fail;refine c1.calls ?_;go_wp2_with fail;refine c2.calls ?_;go_wp2_with fail;refine c3.calls0 ?_;intro w1 h1;have HS1:=lH ((HS.out.step h1).alloc (.cells Z4 115));clear h1;have hr0:=lH (HR.step (w:=w) ⟨heap_alloc_new w (.cells #[.int .i64 0,.int .i64 0] 65)⟩ HS1.out);have HSw:=lH ((Since.alloc (Since.refl w) _).step HS1.out);unfold Z4 at hr0 HSw ⊢;go_wp2_with fail;refine c1.calls ?_;go_wp2_with (refine wpList_store_row rfl 65 _ _ rfl w.heap.size (F2 X (p:Int)) (by rfl) (by rfl) _ _ hr0.out.row (f2_info X (p:Int)) rfl (f2_one X (p:Int)) ?_)
       exact bodyPost_ret (v:=.tuple #[.slice none 0 0,.agg (F2 X (p:Int))]) (results_t_cell Tryz.results43 _ _ _ _ _ _ _ _ rfl rfl (setRow_heap _ _ _ _ _ _ hr0.out.row) Tryz.underlying65 rfl (f2_info X (p:Int))) rfl (HW.out _ (below_setRow HSw.out (Nat.le_refl _) _))
     rw [if_neg hf] at c3;obtain ⟨g1,g2,g3,g4,g5⟩:=Head.enc_dec _ _ _ hq;have gl:(Head.encL hh.c hh.t hh.b hh.n).length = k:=by rw [g5,List.length_take]; omega
     have gk:=(Head.encL_len hh.c hh.t hh.b hh.n).1;have g2':2 <= k:=by
       rw [<- gl];unfold Head.encL Head.tagL Head.lenL Head.seg;simp only [List.length_append]
       split <;> (try split) <;> (try split) <;> (try split) <;> (try split) <;> simp
     obtain ⟨e2,he2⟩:∃ e2,e2 = p + (k + hh.n):=⟨_,rfl⟩
     have c4:=total_ret k hh.n (by omega) (by omega);have c5:=split_ret p s.size (k + hh.n) (by omega) (by omega) e2 he2;have c6:=cut_pe s p e2 (by omega) (by omega) hs;obtain ⟨D,hD⟩:∃ D,D = s.extract p e2:=⟨_,rfl⟩
     rw [<- hD] at c6;have HT2:Hid (prepE (L ++ [D]) (pcsF s f e2) = T):=lH (by rw [<- HT.out,pcs_one s f p L hpn hh k hq hf,hD,he2]);have HL2:Hid ((L ++ [D]).length <= e2):=lH (by rw [List.length_append,List.length_singleton]; have:=HLp.out; omega);have HF2:Hid (s.size - e2 < f):=lH (by have:=HF.out; omega);have HE2:Hid (e2 <= s.size):=lH (by omega);have hL9:L.length <= 1099511627776:=by have:=HLp.out; omega
     have HM:Hid (L.length + 1 <= s.size):=lH (by have:=HLp.out; omega);clear HT HF HLp hq hx hf g1 g2 g3 g4 g5 gl gk g2' he2 hD;go_wp2_with fail;refine c1.calls ?_;go_wp2_with fail;refine c2.calls ?_;go_wp2_with fail;refine c3.calls0 ?_;intro w1 h1;have HS1:=lH ((HS.out.step h1).alloc (.cells (H4 (hh.c:Int) (hh.t:Int) hh.b (hh.n:Int)) 115));have HR1:=lH (World.ownsRow.alloc (Att.row_since HRo.out h1) (.cells (H4 (hh.c:Int) (hh.t:Int) hh.b (hh.n:Int)) 115));unfold H4 at HS1 HR1 ⊢;clear h1 HRo HS;go_wp2_with fail;refine c4.calls ?_;go_wp2_with fail;refine c5.calls ?_;go_wp2_with fail;refine c6.calls ?_;generalize w1.alloc (.cells #[.int .i64 (hh.c:Int),.int .i64 (hh.t:Int),.bool hh.b,.int .i64 (hh.n:Int)] 115) = W1 at HS1 HR1 ⊢;go_wp2_with (at_builtin; refine app_one elemS rfl _ _ (by rfl) (w.alloc (.cells #[.int .i64 0,.int .i64 0] 65)) W1 _ L.length _ (by rfl) HR1.out HS1.out (.string D) (by rfl) rfl hL9 (by decide) ?_; intro v2 w2 hO hS2; obtain ⟨A2,c9,rfl⟩:∃ A c,v2 = .slice A (L.length + 1) c:=own_any hO; have HO:=lH hO; have HS2:=lH hS2; clear hO hS2)
     go_round
     case rel => exact ⟨e2,f,L ++ [D],A2,c9,HE2.out,by rw [List.length_append]; rfl,rfl,HL2,HF2,HT2,lH (by rw [List.length_append,List.map_append]; exact HO.out),HS2⟩
     case measure => show s.size + 1 - (L.length + 1) < s.size + 1 - L.length; have:=HM.out; omega
   · have t1:decide ((p:Int) < (s.size:Int)) = false:=decide_eq_false (by omega);have t2:decide (p < s.size) = false:=decide_eq_false hlt;have HOK:Hid (T = .ok L):=lH (by rw [<- HT.out]; exact pcs_end s f p L (by omega));have hr0:=lH (HR.step (w:=w) ⟨heap_alloc_new w (.cells #[.int .i64 0,.int .i64 0] 65)⟩ HS.out);have HSw:=lH ((Since.alloc (Since.refl w) _).step HS.out);clear HT HF HLp;go_wp2_with fail;refine c1.calls ?_;go_wp2_with fail;refine c2.calls ?_;go_wp2_with (refine wpList_store_row rfl 65 _ _ rfl w.heap.size (F2 0 0) (by rfl) (by rfl) _ _ hr0.out.row (f2_info 0 0) rfl (f2_one 0 0) ?_)
     have hself:wr.setRow w.heap.size (F2 0 0) = wr:=setRow_self _ _ _ _ _ hr0.out.row;rw [hself];refine bodyPost_ret (v:=.tuple #[.slice A L.length cc,.agg (F2 0 0)]) (results_t_cell Tryz.results43 _ _ _ _ _ _ _ _ rfl rfl hr0.out.row Tryz.underlying65 rfl (f2_info 0 0)) rfl ?_;rw [HOK.out];exact ⟨_,rfl,strs_own HRo.out,HSw.out⟩
theorem pieces_u (s:ByteArray) (hs:s.size <= 65535) (c p:Nat) (L:List ByteArray) (hv:pcsV s = (c,p,L)):PcR 43 s (c:Int) (p:Int) L:=by
 intro w;unfold pcsV at hv;rw [if_neg (by omega)] at hv;refine (pieces_t s hs _ rfl w).mono ?_;intro e w' h;unfold PPost at h;cases hq:pcsF s (s.size + 1) 0 with
 | error x =>
   obtain ⟨c',p'⟩:=x;rw [hq] at h hv;dsimp only at h hv;cases hv;exact ⟨_,h.1,StrsS.nil _,h.2⟩
 | ok l =>
   rw [hq] at h hv;dsimp only at h hv;cases hv;exact h
end Tlv
namespace Tree
open Tlv Strs Rw
theorem size_node (W:World):(Go.sizeOf 87).run Tryz.prog W = .ok 5 W:=by
 obtain ⟨i,h1,h2,h3,h4⟩:=nd_make;simp [Go.sizeOf,typeInfo,h1,h3]
theorem sub_slice {w:World} {b o c:Nat} {N:List Nd} (h:TreeS w (.slice (some ⟨b,o,none⟩) N.length c) N) (i e:Nat) (hie:i < e) (he:e <= N.length) :
   ∃ A',TreeS w (.slice A' (e - i) (c - i)) ((N.take e).drop i) /\ ∀ W,(Instr.slice 75 (.slice (some ⟨b,o,none⟩) N.length c) (some (.int .i64 (i:Int))) (some (.int .i64 (e:Int))) none).run Tryz.prog W = .ok (.slice A' (e - i) (c - i)) W:=by
 obtain ⟨ns,hns,rfl⟩:=h;rw [List.length_map] at he;obtain ⟨b2,o2,c2,hv,h1,h2,h3,h4⟩:=SlR.form hns.1 (by omega);rw [List.length_map] at hv ⊢;obtain ⟨ha,-,hc⟩:=Value.slice.inj hv;cases ha;subst hc;have ht':Tryz.prog.underlying 75 = some (.slice (Tryz.prog.elem 75)):=by simp [Program.elem,Tryz.underlying75]
 have hel:Tryz.prog.elem 75 = 87:=by simp [Program.elem,Tryz.underlying75]
 refine ⟨some ⟨b,o + i * 5,none⟩,⟨(ns.take e).drop i,⟨⟨by rw [flat_nc_len],some ⟨b,o + i * 5,none⟩,c - i, ?_, ?_,by omega,.inr ⟨b,o + i * 5,rfl,h3,fun q u hu => ?_⟩⟩,fun x hx => hns.2 x (List.mem_of_mem_take (List.mem_of_mem_drop hx))⟩,by rw [List.map_drop,List.map_take]⟩,fun W => ?_⟩
 · rw [List.length_drop,List.length_take,Nat.min_eq_left he]
 · rw [List.length_drop,List.length_take,Nat.min_eq_left he]; omega
 · have hq:q < (e - i) * 5:=by
     have:=(List.getElem?_eq_some_iff.1 hu).1;rw [flat_nc_len,List.length_drop,List.length_take,Nat.min_eq_left he] at this;exact this
   rw [Nat.add_assoc];refine h4 (i * 5 + q) u ?_;have e1:ns.flatMap nc = (ns.take i).flatMap nc ++ (((ns.take e).drop i).flatMap nc ++ (ns.drop e).flatMap nc):=by
     rw [<- List.flatMap_append,<- List.flatMap_append]
     congr 1
     have h5:ns.take e = ns.take i ++ (ns.take e).drop i:=by
       conv => lhs; rw [<- List.take_append_drop i (ns.take e)]
       rw [List.take_take,Nat.min_eq_left (by omega)]
     rw [<- List.append_assoc,<- h5,List.take_append_drop]
   rw [e1,List.getElem?_append_right (by rw [flat_nc_len,List.length_take]; omega),flat_nc_len,List.length_take,Nat.min_eq_left (by omega),Nat.add_sub_cancel_left,List.getElem?_append_left (by rw [flat_nc_len,List.length_drop,List.length_take,Nat.min_eq_left he]; exact hq)];exact hu
 · rw [run_slice_lh W _ _ _ _ ht' .i64 .i64 _ _ (by omega) (by omega) (by omega),hel,size_node];simp only [Result.andThen,sliced,Int.toNat_natCast];rw [if_neg (by omega)]
   by_cases hj:i = 0
   · subst hj; simp [Addr.add]
   · have hj2:¬ i * 5 = 0:=by omega
     simp [Addr.add,hj2]
def MkO (f:Nat) (N:List Nd) (args:Value -> Array Value) (M:List Nd):Prop:=∀ w v,TreeS w v N -> Calls Tryz.prog f (args v) w fun e w' => ∃ v',e = .returned v' /\ TreeO w' w.heap.size v' M /\ Since w w'
theorem treeO_step {w w1 w2:World} {v:Value} {M:List Nd} (h:TreeO w2 w1.heap.size v M) (hs:Since w w1):TreeO w2 w.heap.size v M:=h.base (Below.size hs)
set_option maxHeartbeats 2000000 in
theorem cut_core (N:List Nd) (hn1:N.length <= 1000) (i e:Nat) (hie:i < e) (he:e <= N.length) (c1:RdT 133 N (fun v => #[v,.int .i64 (i:Int),.int .i64 1]) (.int .i64 (e:Int))) (c2:∀ w v,TreeS w v ((N.take e).drop i) -> Calls Tryz.prog 100 #[v,.int .i64 (-(i:Int))] w fun e' w' => ∃ v',e' = .returned v' /\ TreeO w' w.heap.size v' (subN N i e) /\ Since w w') :
   MkO 111 N (fun v => #[v,.int .i64 (i:Int)]) (subN N i e):=by
 intro w v h;have HT:=lH h;obtain ⟨b,o,c,rfl,-,-,b1,b2⟩:=treeform h (by omega);obtain ⟨A',hA,hrun⟩:=sub_slice h i e hie he;have HA:=lH hA;have hw:IntKind.i64.wrap (-(i:Int)) = -(i:Int):=IntWalk.i64_in _ (by omega);clear h b2 hA
 go_enter Tryz.func111,Tryz.ntmps111
 go_wp2_with fail;refine c1.calls0 HT.out ?_;intro w1 h1;have HS:=lH h1;have HA1:=lH (HA.out.since h1);clear h1;go_wp2_with fail;refine (c2 _ _ HA1.out).mono ?_;rintro _ w2 ⟨v2,rfl,h2,h3⟩;have HO:=lH (treeO_step h2 HS.out);replace HS:=lH (HS.out.step h3);clear h2 h3;go_wp2_with fail;go_ret;exact ⟨_,rfl,HO.out,HS.out⟩
theorem fair_sub {N:List Nd} (h:Fair N) (i e:Nat):Fair ((N.take e).drop i) :=
 ⟨by have:=h.len; rw [List.length_drop,List.length_take]; omega,fun x hx => h.kids x (List.mem_of_mem_take (List.mem_of_mem_drop hx)),fun x hx => h.nums x (List.mem_of_mem_take (List.mem_of_mem_drop hx))⟩
theorem cut_o {N:List Nd} {g:F} (hg:IsT rightB N g) (hs:Small N) (i e:Nat) (hi:i < N.length) (he:behB rightB N 16 i = some e):MkO 111 N (fun v => #[v,.int .i64 (i:Int)]) (subN N i e):=by
 have hle:=beh_le he;have hn:=hg.len;refine cut_core N hn i e hle.1 hle.2 (fun w v h => ?_) (fun w v h => ?_)
 · have h9:=end_r N hs 16 (Nat.le_refl _) w v i 1 h (by omega) rfl;rw [he] at h9;exact h9
 · exact moved_o _ (fair_sub (fair_of hg) i e) (by rw [List.length_drop,List.length_take]; omega) (-(i:Int)) (by omega) w v h
def MkE (f:Nat) (N:List Nd) (args:Value -> Array Value) (M:List Nd):Prop:=∀ w v,TreeS w v N -> Calls Tryz.prog f (args v) w fun e w' => ∃ v',e = .returned v' /\ TreeS w' v' M /\ Since w w'
def subV (N:List Nd) (i:Int):List Nd:=if rigB rightB N = true /\ 0 <= i /\ i < (N.length:Int) then (match behB rightB N 16 i.toNat with | some e => subN N i.toNat e | none => []) else []
end Tree
namespace Tree
open Tlv Strs Rw
theorem own_base {W:World} {base base':Nat} {e:TypeId} {k:Nat} {v:Value} {n:Nat} {xs:List Value} (h:W.ownsRow base e k v n xs) (hb:base' <= base):W.ownsRow base' e k v n xs:=by
 obtain ⟨h1,h2⟩:=h;refine ⟨h1, ?_⟩;rcases h2 with h2 | ⟨g,cap,cur,hv,hb2,hr⟩
 · exact .inl h2
 · exact .inr ⟨g,cap,cur,hv,Nat.le_trans hb hb2,hr⟩
theorem rows_fresh {W W':World} {base:Nat} {rs:List Row} (h:Rw.Rows W base rs) (hs:Since W W') (r:Row) (hr:r.own W' W.heap.size) (hb:base <= W.heap.size):Rw.Rows W' base (r :: rs):=by
 have h2:=h.since hs;refine ⟨fun x hx => ?_,List.pairwise_cons.2 ⟨fun x hx g h3 h4 => ?_,h.apart⟩⟩
 · rcases List.mem_cons.1 hx with rfl | hx
   · exact own_base hr hb
   · exact h2.own x hx
 · have h5:=(World.ownsRow.lt hr g h3).1;have h6:=(World.ownsRow.lt (h.own x hx) g h4).2;omega
theorem rows_last {w:World} {base:Nat} {rs:List Row} {r:Row} (h:Rw.Rows w base (r :: rs)):Rw.Rows w base (rs ++ [r]):=by
 obtain ⟨ho,ha⟩:=h;refine ⟨fun x hx => ho x (by
   rcases List.mem_append.1 hx with hx | hx
   · exact List.mem_cons_of_mem _ hx
   · rw [List.mem_singleton.1 hx]; exact List.mem_cons_self), ?_⟩
 rw [List.pairwise_append];exact ⟨(List.pairwise_cons.1 ha).2,by simp,fun a h1 b h2 => by rw [List.mem_singleton.1 h2]; exact ((List.pairwise_cons.1 ha).1 a h1).symm⟩
theorem own_lone {W':World} {B g:Nat} {t:TypeId} {C:List Value} (hb:B <= g) (hg:W'.heap[g]? = some (.cells C.toArray t (0,0))):(RwL.lone t g C).own W' B :=
 ⟨by simp [RwL.lone],.inr ⟨g,1,C.toArray,rfl,hb,hg,Nat.le_refl _,by decide,by simp [RwL.lone],by simp [RwL.lone]⟩⟩
set_option maxHeartbeats 4000000 in
theorem rmoved_own (ks:List Int) (n:Int) (hl:ks.length <= 100000) (hn:-1000000 <= n /\ n <= 1000000) (hk:∀ a ∈ ks,-1000000 <= a /\ a <= 1000000) (w:World) (x:Value) (hx:IntsS w x ks):Calls Tryz.prog 103 #[x,.int .i64 n] w fun e w' => ∃ A c,e = .returned (.slice A ks.length c) /\ w'.ownsRow w.heap.size 3 1 (.slice A ks.length c) ks.length ((ks.map (· + n)).map (Value.int .i64)) /\ Since w w':=by
 have HX:=lH hx;have HK:=lH hk;have HS:=lH (Since.refl w);obtain ⟨A,q,rfl,-,-⟩:=hx.slice;have hle:=IntsS.le hx;clear hx hk
 go_enter Tryz.func103,Tryz.ntmps103
 go_wp2_with fail;go_loopw [5,6] (fun V i wr => ∃ a:Nat,i = .int .i64 (a:Int) /\ a <= ks.length /\ Hid (wr.ownsRow w.heap.size 3 1 V a (((ks.take a).map (· + n)).map (Value.int .i64))) /\ Hid (Since w wr)) (fun _ i _ => ks.length - (intOf i).toNat)
 case atStart => exact ⟨0,rfl,Nat.zero_le _,lH (World.ownsRow_nil _ _ _ _),HS⟩
 case round =>
   clear HS;obtain ⟨a,rfl,ha,HO,HS⟩:=hrel
   by_cases hlt:a < ks.length
   · obtain ⟨bk,ok,dk,hv,-,-,l3,l4⟩:=HX.out.form (by omega);obtain ⟨rfl,-,rfl⟩:=Value.slice.inj hv;clear hv;obtain ⟨y,hy⟩:∃ y,ks[a]? = some y:=⟨_,List.getElem?_eq_getElem hlt⟩
     have c9:=(Below.cell HS.out (p:=⟨bk,ok + a,none⟩) l3).trans (l4 a hlt);rw [show ks.getD a 0 = y by simp [List.getD,hy]] at c9;have hyb:=HK.out y (List.mem_iff_getElem?.2 ⟨a,hy⟩);have hw:IntKind.i64.wrap (y + n) = y + n:=IntWalk.i64_in _ (by omega);have etk:((ks.take a).map (· + n)).map (Value.int .i64) ++ [Value.int .i64 (y + n)] = ((ks.take (a + 1)).map (· + n)).map (Value.int .i64):=by
       obtain ⟨g1,g2⟩:=List.getElem?_eq_some_iff.1 hy;rw [List.take_succ_eq_append_getElem g1,g2,List.map_append,List.map_append];rfl
     have HE:=lH etk;have HB:=lH (show a <= 1099511627776 by omega);clear hy l4 etk;go_wp2_with (at_builtin; refine app_one_k elemT rfl _ _ (by rfl) w _ _ a _ (by rfl) HO.out HS.out (.int .i64 (y + n)) (by rfl) rfl HB.out (by decide) ?_; intro V2 W2 h2 h3 _; rw [HE.out] at h2)
     have HO2:=lH h2;have HS2:=lH h3;clear h2 h3;go_wp2_with fail;go_roundw
     case rel => exact ⟨a + 1,by go_num,by omega,HO2,HS2⟩
     case measure => (simp [intOf] <;> omega)
   · obtain rfl:a = ks.length:=by omega
     have hO:=HO.out;rw [List.take_length] at hO;obtain ⟨A2,c2,hv2⟩:=own_any hO;subst hv2;have HO2:=lH hO;clear hO;go_wp2_with fail;go_ret;exact ⟨A2,c2,rfl,HO2.out,HS.out⟩
theorem rsub_not (N:List Nd) (i:Int) (c1:RdT 104 N (fun v => #[v]) (.bool false)):MkE 71 N (fun v => #[v,.int .i64 i]) []:=by
 intro w v h;have HT:=lH h;have HS:=lH (Since.refl w);obtain ⟨A,c,rfl,-,-⟩:=h.slice;clear h
 go_enter Tryz.func71,Tryz.ntmps71
 go_wp2_with fail;refine c1.calls0 HT.out ?_;intro w1 h1;replace HS:=lH (HS.out.step h1);clear h1;go_wp2_with fail;go_ret;exact ⟨_,rfl,TreeS.nil _,HS.out⟩
theorem rsub_neg (N:List Nd) (i:Int) (t1:decide (i < 0) = true) (c1:RdT 104 N (fun v => #[v]) (.bool true)):MkE 71 N (fun v => #[v,.int .i64 i]) []:=by
 intro w v h;have HT:=lH h;have HS:=lH (Since.refl w);obtain ⟨A,c,rfl,-,-⟩:=h.slice;clear h
 go_enter Tryz.func71,Tryz.ntmps71
 go_wp2_with fail;refine c1.calls0 HT.out ?_;intro w1 h1;replace HS:=lH (HS.out.step h1);clear h1;go_wp2_with fail;go_ret;exact ⟨_,rfl,TreeS.nil _,HS.out⟩
theorem rsub_far (N:List Nd) (i:Int) (t1:decide (i < 0) = false) (t2:decide ((N.length:Int) <= i) = true) (c1:RdT 104 N (fun v => #[v]) (.bool true)):MkE 71 N (fun v => #[v,.int .i64 i]) []:=by
 intro w v h;have HT:=lH h;have HS:=lH (Since.refl w);obtain ⟨A,c,rfl,-,-⟩:=h.slice;clear h
 go_enter Tryz.func71,Tryz.ntmps71
 go_wp2_with fail;refine c1.calls0 HT.out ?_;intro w1 h1;replace HS:=lH (HS.out.step h1);clear h1;go_wp2_with fail;go_ret;exact ⟨_,rfl,TreeS.nil _,HS.out⟩
set_option maxHeartbeats 8000000 in
theorem rsub_yes (N:List Nd) (hF:Fair N) (i e:Nat) (hie:i < e) (he:e <= N.length) (c1:RdT 104 N (fun v => #[v]) (.bool true)) (c2:RdT 112 N (fun v => #[v,.int .i64 (i:Int),.int .i64 1]) (.int .i64 (e:Int))):MkE 71 N (fun v => #[v,.int .i64 (i:Int)]) (subN N i e):=by
 intro w v h;have HT:=lH h;have HS:=lH (Since.refl w);obtain ⟨b,o,c,rfl,-,-,b1,b2⟩:=treeform h (by omega);have B1:=lH b1;have B2:=lH b2;have HFF:=lH hF;have hn:=hF.len;have t1:decide ((i:Int) < 0) = false:=decide_eq_false (by omega);have t2:decide ((N.length:Int) <= (i:Int)) = false:=decide_eq_false (by omega);have t3:decide (N.length <= i) = false:=decide_eq_false (by omega);clear h b1 b2 hF
 go_enter Tryz.func71,Tryz.ntmps71
 go_wp2_with fail;refine c1.calls0 HT.out ?_;intro w1 h1;replace HS:=lH (HS.out.step h1);replace HT:=lH (HT.out.since h1);clear h1;go_wp2_with fail;refine c2.calls0 HT.out ?_;intro w2 h2;replace HS:=lH (HS.out.step h2);clear h2 HT c1 c2 t1 t2 t3;go_wp2_with fail;go_loopw [5,7] (fun V j wr => ∃ (a:Nat) (D:List (Nd × Value)),j = .int .i64 (a:Int) /\ i <= a /\ a <= e /\ Hid (D.length = a - i) /\ Hid (D.map Prod.fst = ((N.take a).drop i).map (shift (-(i:Int)))) /\ Hid (Rw.Rows wr w.heap.size (⟨87,5,V,D.length,D.flatMap nc⟩ :: D.map kr)) /\ Hid (Since w wr)) (fun _ j _ => e - (intOf j).toNat)
 case atStart => exact ⟨i,[],rfl,Nat.le_refl _,by omega,lH (by simp),lH (by rw [List.drop_of_length_le (by rw [List.length_take]; omega)]; rfl),lH ⟨fun r hr => by rw [List.mem_singleton.1 hr]; exact World.ownsRow_nil _ _ _ _,by simp⟩,HS⟩
 case round =>
   clear HS;obtain ⟨a,D,rfl,hia,hae,hD,hDm,HR,HS⟩:=hrel
   by_cases hlt:a < e
   · have haN:a < N.length:=by omega
     obtain ⟨y,hy⟩:∃ y,N[a]? = some y:=⟨_,List.getElem?_eq_getElem haN⟩
     have hym:=List.mem_iff_getElem?.2 ⟨a,hy⟩;obtain ⟨A,q,m0,m1,m2,m3,m4,m5⟩:=B2.out a y hy;have n0:=(Below.cell HS.out (p:=⟨b,o + a * 5,none⟩) B1.out).trans m0;have n1:=(Below.cell HS.out (p:=⟨b,o + a * 5 + 1,none⟩) B1.out).trans m1;have n2:=(Below.cell HS.out (p:=⟨b,o + a * 5 + 2,none⟩) B1.out).trans m2;have n3:=(Below.cell HS.out (p:=⟨b,o + a * 5 + 3,none⟩) B1.out).trans m3;have n4:=(Below.cell HS.out (p:=⟨b,o + a * 5 + 4,none⟩) B1.out).trans m4;have x1:(a:Int) < (N.length:Int):=by omega
     have x2:(0:Int) <= (a:Int):=by omega
     have c5:=rmoved_own y.k (-(i:Int)) (HFF.out.kids y hym) (by omega) (HFF.out.nums y hym);have r1:(wr.alloc (.cells #[.int .i64 0,.int .i64 0,.bool false,.string ⟨#[]⟩,.slice none 0 0] 87)).heap[wr.heap.size]? = some (.cells #[.int .i64 0,.int .i64 0,.bool false,.string ⟨#[]⟩,.slice none 0 0] 87 (0,0)):=heap_alloc_new wr _;have hb:=lH (hb_row (K:=KT) (C':=#[.int .i64 y.c,.int .i64 y.t,.bool y.b,.string y.d,.slice A y.k.length q]) ((Since.refl wr).alloc _) (Nat.le_refl _) trivial r1);obtain ⟨_,y0,y1,y2,y3,y4⟩:=hb5 hb;have hwr:w.heap.size <= wr.heap.size:=Below.size HS.out;have hrow3:=lH (rows_fresh HR.out hb.out.since (RwL.lone 87 wr.heap.size [.int .i64 y.c,.int .i64 y.t,.bool y.b,.string y.d,.slice A y.k.length q]) (own_lone (Nat.le_refl _) (setRow_heap _ _ _ _ _ _ r1)) hwr);have HS3:=lH (HS.out.step hb.out.since);have K5:=lH ((m5.since HS.out).since hb.out.since);have hw:IntKind.i64.wrap (-(i:Int)) = -(i:Int):=IntWalk.i64_in _ (by omega);have hsplit:((N.take (a + 1)).drop i).map (shift (-(i:Int))) = ((N.take a).drop i).map (shift (-(i:Int))) ++ [shift (-(i:Int)) y]:=by
       obtain ⟨g1,g2⟩:=List.getElem?_eq_some_iff.1 hy;rw [List.take_succ_eq_append_getElem g1,g2,List.drop_append_of_le_length (by rw [List.length_take]; omega),List.map_append];rfl
     have HSP:=lH hsplit;clear m0 m1 m2 m3 m4 m5 hy hym hsplit HR HS;go_wp2_with (refine wpList_store_row rfl 87 _ _ rfl wr.heap.size #[.int .i64 y.c,.int .i64 y.t,.bool y.b,.string y.d,.slice A y.k.length q] (by rfl) (by rfl) _ _ r1 (node_info _ _ _ _ _ _ _) rfl (node_one _ _ _ _ _ _ _) ?_)
     clear n0 n1 n2 n3 n4 y0 y1 y2 y3 y4 r1 hb;generalize World.setRow _ _ _ = W3 at hrow3 HS3 K5 ⊢;refine (c5 W3 _ K5.out).mono ?_;rintro _ w4 ⟨A2,q2,rfl,ho2,h4⟩;have hrow4:=rows_fresh hrow3.out h4 ⟨3,1,.slice A2 y.k.length q2,y.k.length,(y.k.map (· + -(i:Int))).map (Value.int .i64)⟩ ho2 (Below.size HS3.out);have HR4:=lH (show Rw.Rows w4 w.heap.size ([⟨3,1,.slice A2 y.k.length q2,y.k.length,(y.k.map (· + -(i:Int))).map (Value.int .i64)⟩] ++ ⟨87,5,.slice (some ⟨wr.heap.size,0,none⟩) 1 1,1,[.int .i64 y.c,.int .i64 y.t,.bool y.b,.string y.d,.slice A y.k.length q]⟩ :: (⟨87,5,_,D.length,D.flatMap nc⟩ :: D.map kr)) from hrow4);have HS4:=lH (HS3.out.step h4);clear ho2 h4 hrow4 hrow3 HS3 K5 c5;have tok1:True:=trivial;have HB1:=lH (show D.length + 1 <= maxLen by have:=hD.out; unfold maxLen; omega);have HB2:=lH (show (D.length + 1) * 64 <= 140737488355328 by have:=hD.out; omega);go_wp2_with (first
       | (refine RwL.store_rows rfl 44 _ _ (by rfl) intl_one w w4 _ _ 87 5 wr.heap.size 1 1 _ HR4.out HS4.out 4 (by decide) (by rfl) (.slice A2 y.k.length q2) (by rfl) rfl ?_; intro w5 HQ5 HT5 hk5; have hbx:=HQ5.own (RwL.lone 87 wr.heap.size [.int .i64 y.c,.int .i64 y.t,.bool y.b,.string y.d,.slice A2 y.k.length q2]) (by simp [RwL.lone]); have y0:=(RwL.lone_cell hbx 0 _ rfl).1; have y1:=(RwL.lone_cell hbx 1 _ rfl).1; have y2:=(RwL.lone_cell hbx 2 _ rfl).1; have y3:=(RwL.lone_cell hbx 3 _ rfl).1; have y4:=(RwL.lone_cell hbx 4 _ rfl).1; have HR5:=lH HQ5; have HS5:=lH HT5; clear HQ5 HT5 hk5 hbx)
       | (at_builtin; have _t:=tok1; refine app_rows elemN rfl _ _ (by rfl) w w5 _ rfl ([⟨3,1,.slice A2 y.k.length q2,y.k.length,(y.k.map (· + -(i:Int))).map (Value.int .i64)⟩,RwL.lone 87 wr.heap.size [.int .i64 y.c,.int .i64 y.t,.bool y.b,.string y.d,.slice A2 y.k.length q2]]:List Row) (D.map kr) _ D.length (D.flatMap nc) (by rfl) HR5.out HS5.out #[.int .i64 y.c,.int .i64 y.t,.bool y.b,.string y.d,.slice A2 y.k.length q2] 1 1 (by rfl) rfl (by intro u hu; simp at hu; rcases hu with rfl | rfl | rfl | rfl | rfl <;> rfl) HB1.out HB2.out ?_; intro V2 w6 HQ6 HT6 hk6; clear tok1))
     have e9:kr (shift (-(i:Int)) y,.slice A2 y.k.length q2) = ⟨3,1,.slice A2 y.k.length q2,y.k.length,(y.k.map (· + -(i:Int))).map (Value.int .i64)⟩:=by
       unfold kr shift;simp
     have h7:=rows_last (rs:=RwL.lone 87 wr.heap.size [.int .i64 y.c,.int .i64 y.t,.bool y.b,.string y.d,.slice A2 y.k.length q2] :: ⟨87,5,V2,D.length + 1,D.flatMap nc ++ nc (shift (-(i:Int)) y,.slice A2 y.k.length q2)⟩ :: D.map kr) HQ6;have h8:=RwL.rows_drop h7;have HR9:Hid (Rw.Rows w6 w.heap.size (⟨87,5,V2,(D ++ [(shift (-(i:Int)) y,Value.slice A2 y.k.length q2)]).length,(D ++ [(shift (-(i:Int)) y,Value.slice A2 y.k.length q2)]).flatMap nc⟩ :: (D ++ [(shift (-(i:Int)) y,Value.slice A2 y.k.length q2)]).map kr)):=lH (by
       rw [List.length_append,List.flatMap_append,List.map_append,List.map_cons,List.map_nil,e9,List.flatMap_cons,List.flatMap_nil,List.append_nil];exact h8)
     have HD9:Hid ((D ++ [(shift (-(i:Int)) y,Value.slice A2 y.k.length q2)]).map Prod.fst = ((N.take (a + 1)).drop i).map (shift (-(i:Int)))):=lH (by
       rw [HSP.out,List.map_append,hDm.out];rfl)
     have HL9:Hid ((D ++ [(shift (-(i:Int)) y,Value.slice A2 y.k.length q2)]).length = a + 1 - i):=lH (by rw [List.length_append,hD.out]; show a - i + 1 = _; omega);have HS9:=lH HT6;clear h7 h8 HQ6 HT6 hk6 e9;go_roundw
     case rel => exact ⟨a + 1,_,by go_num,by omega,by omega,HL9,HD9,HR9,HS9⟩
     case measure => (simp [intOf] <;> omega)
   · obtain rfl:a = e:=by omega
     have hT:TreeS wr _ (subN N i a):=⟨D,⟨SlR.own (HR.out.own _ List.mem_cons_self),fun x hx => by
       have h9:=HR.out.own (kr x) (List.mem_cons_of_mem _ (List.mem_map.2 ⟨x,hx,rfl⟩));have h8:SlR wr 1 x.2 x.1.k.length (x.1.k.map (Value.int .i64)):=SlR.own h9;exact h8⟩,hDm.out⟩
     have HT:=lH hT;clear hT;go_wp2_with fail;go_ret;exact ⟨_,rfl,HT.out,HS.out⟩
theorem rsub_mk (N:List Nd) (hs:Small N) (i:Int):MkE 71 N (fun v => #[v,.int .i64 i]) (subV N i):=by
 have c1:=rrig_rd N hs;unfold subV;cases hr:rigB rightB N with
 | false => rw [hr] at c1; rw [if_neg (by simp)]; exact rsub_not N i c1
 | true =>
   rw [hr] at c1
   by_cases h1:i < 0
   · rw [if_neg (by omega)]; exact rsub_neg N i (decide_eq_true h1) c1
   by_cases h2:(N.length:Int) <= i
   · rw [if_neg (by omega)]; exact rsub_far N i (decide_eq_false h1) (decide_eq_true h2) c1
   rw [if_pos ⟨rfl,by omega,by omega⟩];obtain ⟨g,hg⟩:=right_is hr;obtain ⟨j,rfl⟩:=Int.eq_ofNat_of_zero_le (show 0 <= i by omega);obtain ⟨s,s1,s2,s3,s4⟩:=sub_of hg j (by omega);rw [Int.toNat_natCast,s1];have hle:=beh_le s1;refine rsub_yes N (fair_of hg) j _ hle.1 hle.2 c1 (fun w v h => ?_);have h9:=beh_r N hs 16 (Nat.le_refl _) w v j 1 h (by omega) rfl;rw [s1] at h9;exact h9
end Tree
namespace Tree
open Tlv Strs Rw
def TreesS (W:World) (v:Value) (Ns:List (List Nd)):Prop:=∃ vs:List Value,SlR W 1 v Ns.length vs /\ ∀ (j:Nat) x N,vs[j]? = some x -> Ns[j]? = some N -> TreeS W x N
theorem TreesS.since {W W':World} {v:Value} {Ns:List (List Nd)} (h:TreesS W v Ns) (hs:Since W W'):TreesS W' v Ns:=by
 obtain ⟨vs,h1,h2⟩:=h;exact ⟨vs,h1.since hs,fun j x N a b => (h2 j x N a b).since hs⟩
theorem TreesS.slice {W:World} {v:Value} {Ns:List (List Nd)} (h:TreesS W v Ns):∃ A c,v = .slice A Ns.length c /\ Ns.length <= c /\ c <= maxLen:=by
 obtain ⟨vs,h1,h2⟩:=h;exact SlR.slice h1
theorem TreesS.form {W:World} {v:Value} {Ns:List (List Nd)} (h:TreesS W v Ns) (hn:0 < Ns.length):∃ b o c,v = .slice (some ⟨b,o,none⟩) Ns.length c /\ b < W.heap.size /\ ∀ (j:Nat) N,Ns[j]? = some N -> ∃ x,W.cell? ⟨b,o + j,none⟩ = some x /\ TreeS W x N:=by
 obtain ⟨vs,h1,h2⟩:=h;obtain ⟨b,o,c,hv,-,-,h3,h4⟩:=SlR.form h1 hn;refine ⟨b,o,c,hv,h3,fun j N hj => ?_⟩;have hl:vs.length = Ns.length:=by have:=h1.1; omega
 have hjl:=(List.getElem?_eq_some_iff.1 hj).1;exact ⟨vs[j],h4 j _ (List.getElem?_eq_getElem (by omega)),h2 j _ N (List.getElem?_eq_getElem (by omega)) hj⟩
set_option maxHeartbeats 8000000 in
theorem kids_core (N:List Nd) (x0:Nd) (hx0:N[0]? = some x0) (hkl:x0.k.length <= 100000) (Ns:List (List Nd)) (hlen:Ns.length = x0.k.length) (hsub:∀ (j:Nat) (a:Int),x0.k[j]? = some a -> ∃ M,Ns[j]? = some M /\ MkO 111 N (fun v => #[v,.int .i64 a]) M) (c1:RdT 96 N (fun v => #[v]) (.bool true)) (w:World) (v:Value) (h:TreeS w v N):Calls Tryz.prog 68 #[v] w fun e w' => ∃ v',e = .returned v' /\ TreesS w' v' Ns /\ Since w w':=by
 have hpos:0 < N.length:=(List.getElem?_eq_some_iff.1 hx0).1;have HT:=lH h;have HTW:=lH h;have HS:=lH (Since.refl w);obtain ⟨b,o,c,rfl,-,-,b1,b2⟩:=treeform h hpos;obtain ⟨A,q,m0,m1,m2,m3,m4,m5⟩:=b2 0 x0 hx0;rw [Nat.zero_mul,Nat.add_zero] at m4;have B1:=lH b1;have M4:=lH m4;have K5:=lH m5;obtain ⟨n,hn⟩:∃ n,n = x0.k.length:=⟨_,rfl⟩
 have hle:=IntsS.le K5.out;have hmk:∀ w:World,(Instr.makeSlice 80 (.int .i64 (n:Int)) (.int .i64 (n:Int))).run Tryz.prog w = .ok (.slice (some ⟨w.heap.size,0,none⟩) n n) (w.alloc (.cells (madeCells #[.slice none 0 0] n) 75)):=fun w =>
   run_make_row' (P:=Tryz.prog) 80 75 (.slice none 0 0) 24 Tryz.underlying80 (by kernel_rfl) rfl .i64 .i64 n (by omega) (by omega) w
 have HSUB:=lH hsub;have HN:=lH hn;have HL:=lH hlen;have t0:((N.length:Int) == 0) = false:=by rw [beq_eq_false_iff_ne]; omega
 have x1:(0:Int) < (N.length:Int):=by omega
 have hn5:n <= 100000:=by omega
 clear h b1 b2 m0 m1 m2 m3 m4 m5 hsub hlen hkl hx0
 go_enter Tryz.func68,Tryz.ntmps68
 go_wp2_with fail;refine c1.calls0 HT.out ?_;intro w1 h1;replace HS:=lH (HS.out.step h1);replace HT:=lH (HT.out.since h1);have m4:=(Below.cell h1 (p:=⟨b,o + 4,none⟩) B1.out).trans M4.out;have m4':=(Below.cell (h1.alloc (.cells (madeCells #[.slice none 0 0] n) 75)) (p:=⟨b,o + 4,none⟩) B1.out).trans M4.out;have hw1:w.heap.size <= w1.heap.size:=Below.size HS.out;rw [<- hn] at m4 m4';clear h1 c1 hn;go_wp2_with fail;clear m4 m4';have hr0:Hid ((w1.alloc (.cells (madeCells #[.slice none 0 0] n) 75)).rowIs w1.heap.size 75 n (fun _ => .slice none 0 0)):=lH (World.rowIs_made w1 (.slice none 0 0) n 75);have HT0:=lH (HT.out.since ((Since.refl w1).alloc (.cells (madeCells #[.slice none 0 0] n) 75)));have HS0:=lH (HS.out.alloc (.cells (madeCells #[.slice none 0 0] n) 75));have hB:w1.heap.size + 1 <= (w1.alloc (.cells (madeCells #[.slice none 0 0] n) 75)).heap.size:=by simp
 go_loopw [23] (fun i wr => ∃ (a:Nat) (f:Nat -> Value),i = .int .i64 (a:Int) /\ a <= n /\ Hid (wr.rowIs w1.heap.size 75 n f) /\ Hid (∀ j,j < a -> ∃ M,Ns[j]? = some M /\ TreeO wr (w1.heap.size + 1) (f j) M) /\ Hid (Since w wr)) (fun i _ => n - (intOf i).toNat)
 case atStart => exact ⟨0,_,rfl,Nat.zero_le _,hr0,lH (fun j hj => by omega),HS0⟩
 case round =>
   clear HS0 HS hr0 HT0 hB;obtain ⟨a,f,rfl,ha,hr,hM,HS⟩:=hrel
   by_cases hlt:a < n
   · obtain ⟨bk,ok,dk,hv,-,-,l3,l4⟩:=K5.out.form (by have:=HN.out; omega);obtain ⟨rfl,-,rfl⟩:=Value.slice.inj hv;clear hv;have hal:a < x0.k.length:=by have:=HN.out; omega
     obtain ⟨y,hy⟩:∃ y,x0.k[a]? = some y:=⟨_,List.getElem?_eq_getElem hal⟩
     have c9:=(Below.cell HS.out (p:=⟨bk,ok + a,none⟩) l3).trans (l4 a hal);rw [show x0.k.getD a 0 = y by simp [List.getD,hy]] at c9;obtain ⟨M,hM1,hM2⟩:=HSUB.out a y hy;have z0:=hr.out.cell hlt;have z1:=hr.out.frozen a;have q1:(a:Int) < (n:Int):=by omega
     have hrl:=hr.out.lt;have HM1:=lH hM1;clear hy hM1 l4;go_wp2_with fail;refine (hM2 wr _ (HTW.out.since HS.out)).mono ?_;rintro _ w2 ⟨v2,rfl,hO,h2⟩;have hO':=hO;obtain ⟨g2,m2,D2,rfl,-,-⟩:=hO';have hr2:=lH (drow_since hr.out h2);have HS2:=lH (HS.out.step h2);have y0:=hr2.out.cell hlt;have y1:=hr2.out.frozen a;have hr3:=lH (hr2.out.set a (.slice (some ⟨g2,0,none⟩) m2 m2));have HS3:=lH (Below.setCell (p:=⟨w1.heap.size,a,none⟩) HS2.out hw1 (.slice (some ⟨g2,0,none⟩) m2 m2));have hM3:∀ j,j < a + 1 -> ∃ M,Ns[j]? = some M /\ TreeO (w2.setCell ⟨w1.heap.size,a,none⟩ (.slice (some ⟨g2,0,none⟩) m2 m2)) (w1.heap.size + 1) (if j = a then .slice (some ⟨g2,0,none⟩) m2 m2 else f j) M:=by
       intro j hj
       by_cases e:j = a
       · subst e;refine ⟨M,HM1.out, ?_⟩;rw [if_pos rfl];exact (hO.base (show w1.heap.size + 1 <= wr.heap.size by omega)).low (a:=⟨w1.heap.size,j,none⟩) (Nat.lt_succ_self _) _
       · obtain ⟨M',k1,k2⟩:=hM.out j (by omega);refine ⟨M',k1, ?_⟩;rw [if_neg e];exact (k2.since h2).low (a:=⟨w1.heap.size,a,none⟩) (Nat.lt_succ_self _) _
     have HM3:=lH hM3;clear hO h2 hM3 z0 z1 c9;go_wp2_with fail;go_roundw
     case rel => exact ⟨a + 1,_,by go_num,by omega,hr3,HM3,HS3⟩
     case measure => (simp [intOf] <;> omega)
   · obtain rfl:a = n:=by omega
     have hfin:TreesS wr (.slice (some ⟨w1.heap.size,0,none⟩) a a) Ns:=by
       have hla:Ns.length = a:=by rw [HL.out,<- HN.out]
       refine ⟨(List.range a).map f,⟨by rw [List.length_map,List.length_range,hla,Nat.mul_one],some ⟨w1.heap.size,0,none⟩,a,by rw [hla],by omega,by unfold maxLen; omega,.inr ⟨w1.heap.size,0,rfl,hr.out.lt,fun j u hu => ?_⟩⟩,fun j x M hx hm => ?_⟩
       · have hj:=(List.getElem?_eq_some_iff.1 hu).1;rw [List.length_map,List.length_range] at hj;have:=hr.out.cell hj;rw [Nat.zero_add,this];simp [hj] at hu;rw [hu]
       · have hj:=(List.getElem?_eq_some_iff.1 hx).1;rw [List.length_map,List.length_range] at hj;obtain ⟨M',k1,k2⟩:=hM.out j hj;rw [hm] at k1;cases k1;simp [hj] at hx;rw [<- hx];exact k2.read
     have HF:=lH hfin;clear hfin;go_wp2_with fail;go_ret;exact ⟨_,rfl,HF.out,HS.out⟩
theorem kids_mk {N:List Nd} {g:F} (hg:IsT rightB N g) (hs:Small N) (x0:Nd) (hx0:N[0]? = some x0):∃ Ns:List (List Nd),Ns.length = x0.k.length /\ (∀ (c t:Nat) (ks:F),g = .cons c t ks .nil -> Ns = (parts ks).map (fun p => p.flat 0)) /\ ∀ w v,TreeS w v N -> Calls Tryz.prog 68 #[v] w fun e w' => ∃ v',e = .returned v' /\ TreesS w' v' Ns /\ Since w w':=by
 have c1:=rig_rd N hs;rw [is_right hg] at c1;have hkl:=(fair_of hg).kids x0 (List.mem_iff_getElem?.2 ⟨0,hx0⟩);have hg2:=hg;obtain ⟨h1,h2,h3,h4,h5⟩:=hg;cases g with
 | nil => exact absurd h2 (by intro h; exact h)
 | prim c t d nx =>
   cases (show nx = .nil from h2);have e:x0 = ⟨c,t,false,d,[]⟩:=by
     rw [h3] at hx0;exact (Option.some.inj hx0).symm
   subst e;exact ⟨[],rfl,(fun c t ks h => by cases h),kids_core N _ hx0 hkl [] rfl (fun j a h => by cases h) c1⟩
 | cons c t ks nx =>
   cases (show nx = .nil from h2);have e:x0 = ⟨c,t,true,⟨#[]⟩,ks.tops 1⟩:=by
     rw [h3] at hx0;exact (Option.some.inj hx0).symm
   subst e;have hA:At N 1 (ks.flat 1):=by
     have h9:At N 0 ((⟨c,t,true,⟨#[]⟩,ks.tops 1⟩:Nd) :: (ks.flat 1 ++ [])):=fun j x hx => by rw [Nat.zero_add,h3]; exact hx
     rw [List.append_nil] at h9;exact At.tail h9
   have hlen:((parts ks).map (fun p => p.flat 0)).length = (ks.tops 1).length:=by rw [List.length_map,parts_len ks 1]
   refine ⟨(parts ks).map (fun p => p.flat 0),hlen,(fun c t ks' h => by cases h; rfl),kids_core N _ hx0 hkl _ hlen (fun j a h => ?_) c1⟩;have hj:j < (parts ks).length:=by
     have:=(List.getElem?_eq_some_iff.1 h).1;rw [parts_len ks 1];exact this
   obtain ⟨p1,p2,p3,b,p4,p5⟩:=parts_at rightB ks 1 j (parts ks)[j] h1.2.2.2.1 (List.getElem?_eq_getElem hj);have hb:a = (b:Int):=by rw [h] at p4; exact Option.some.inj p4
   subst hb;have hd:max (ks.deep + 1) 0 <= 16:=h4;have hbeh:=beh_single p1 p2 (p5 N hA) (show (parts ks)[j].deep <= 16 by omega);have hbl:b < N.length:=by have:=beh_le hbeh; omega
   refine ⟨(parts ks)[j].flat 0,by rw [List.getElem?_map,List.getElem?_eq_getElem hj]; rfl, ?_⟩;rw [<- sub_flat (p5 N hA)];exact cut_o hg2 hs b _ hbl hbeh
end Tree
namespace Tree
open Tlv Strs Rw
theorem rows_merge {W W':World} {base:Nat} {rs rs':List Row} (h:Rw.Rows W base rs) (hs:Since W W') (h':Rw.Rows W' W.heap.size rs') (hb:base <= W.heap.size):Rw.Rows W' base (rs ++ rs'):=by
 refine ⟨fun x hx => ?_, ?_⟩
 · rcases List.mem_append.1 hx with hx | hx
   · exact (h.since hs).own x hx
   · exact own_base (h'.own x hx) hb
 · rw [List.pairwise_append];refine ⟨h.apart,h'.apart,fun a ha b hb g h3 h4 => ?_⟩;have h5:=(World.ownsRow.lt (h.own a ha) g h3).2;have h6:=(World.ownsRow.lt (h'.own b hb) g h4).1;omega
theorem app_from {T E:TypeId} {z:Value} {size bytes:Nat} (I:ElemIs T E z size bytes) {ops:Array Oper} {rest:List Oper} {o:Oper} {a:Act} {Q:Exit -> Act -> World -> Prop} (hgd:o.guard = none) (s x:Operand)
   (ho:o.op = .call { callee:=.builtin .append,args:=#[s,x],argTypes:=#[T,T] })
   (w0 wr:World) (A B:List Row) (v:Value) (n:Nat) (xs:List Value) (hs:a.eval s = v) (hown:Rw.Rows wr w0.heap.size (A ++ ⟨E,size,v,n,xs⟩ :: B)) (hS:Since w0 wr)
   (ad:Addr) (cells:List Value) (c m:Nat) (hx:a.eval x = .slice (some ad) m c) (hl:cells.length = m * size) (hcell:∀ j u,cells[j]? = some u -> wr.cell? (ad.add j) = some u) (h1:∀ u ∈ cells,u.oneCell' = true)
   (h63:n + m <= maxLen) (hbytes:(n + m) * bytes <= 140737488355328)
   (h:∀ v' w',Rw.Rows w' w0.heap.size (A ++ ⟨E,size,v',n + m,xs ++ cells⟩ :: B) -> Since w0 w' -> wpList Tryz.prog ops Q rest (a.put o.dst v') w') :
   wpList Tryz.prog ops Q (o :: rest) a wr:=by
 obtain ⟨ht,hi,hz,hs0⟩:=I;obtain ⟨i,hi1,hi2⟩:=Option.map_eq_some_iff.1 hi;simp only [Prod.mk.injEq] at hi2;have hown1:=hown.get;have h9:=Below.size hS;refine wpList_append_own_at (w:=wr) hgd s x T ho w0.heap.size E i z size bytes ht hi1 hi2.1 hi2.2.1 hi2.2.2 hz hs0 v n xs hs hown1 ad m c cells hx hl hcell h1 h63 hbytes h9 ?_;intro v' w' ho' hg _ hw;refine h v' w' (hown.turn ⟨E,size,v',n + m,xs ++ cells⟩ ho' fun u hu hap => ⟨?_, ?_⟩) ?_
 · refine World.ownsRow.kept hu hg ?_;cases hub:u.v.ownBlock with
   | none => exact Or.inl rfl
   | some g => exact Or.inr fun e => hap g e.symm hub
 · intro g h2 h3;rcases hw with hw | hw
   · exact hap g (hw ▸ h2) h3
   · rw [show (⟨E,size,v',n + m,xs ++ cells⟩:Row).v = v' from rfl,hw] at h2;cases h2;have h4:=(World.ownsRow.lt hu _ h3).2;omega
 · exact Below.grown hS hg h9 (fun k hk => (hown1.lt k hk).1)
theorem rows_sub {W:World} {base:Nat} {rs rs':List Row} (h:Rw.Rows W base rs) (hs:rs'.Sublist rs):Rw.Rows W base rs':=⟨fun r hr => h.own r (hs.subset hr),h.apart.sublist hs⟩
theorem fold_snoc (h0:List Nd) (Ns:List (List Nd)) (a:Nat) (N:List Nd) (h:Ns[a]? = some N):(Ns.take (a + 1)).foldl stepN h0 = stepN ((Ns.take a).foldl stepN h0) N:=by
 obtain ⟨h1,h2⟩:=List.getElem?_eq_some_iff.1 h;rw [List.take_succ_eq_append_getElem h1,List.foldl_append,h2];rfl
set_option maxHeartbeats 8000000 in
theorem of_mk (c t:Int) (Ns:List (List Nd)) (hF:∀ N ∈ Ns,Fair N) (hnl:Ns.length <= 1000) (hsum:∀ a,((Ns.take a).foldl stepN [⟨c,t,true,⟨#[]⟩,[]⟩]).length <= 10000) (hks:∀ a,∀ x ∈ (Ns.take a).foldl stepN [⟨c,t,true,⟨#[]⟩,[]⟩],x.k.length <= 100000) (w:World) (P:Value) (hP:TreesS w P Ns):Calls Tryz.prog 54 #[.int .i64 c,.int .i64 t,P] w fun e w' => ∃ v',e = .returned v' /\ TreeS w' v' (ofN c t Ns) /\ Since w w':=by
 have HP:=lH hP;have HS:=lH (Since.refl w);obtain ⟨PA,pc,rfl,hp1,hp2⟩:=hP.slice;have HFF:=lH hF;have HSM:=lH hsum;have HKS:=lH hks;clear hP hF hsum hks
 go_enter Tryz.func54,Tryz.ntmps54
 go_wp2_with fail;have hR0:Hid (Rw.Rows (w.alloc (.cells #[.int .i64 c,.int .i64 t,.bool true,.string ⟨#[]⟩,.slice none 0 0] 87)) w.heap.size (⟨87,5,.slice (some ⟨w.heap.size,0,none⟩) 1 1,1,[((⟨c,t,true,⟨#[]⟩,[]⟩:Nd),Value.slice none 0 0)].flatMap nc⟩ :: [((⟨c,t,true,⟨#[]⟩,[]⟩:Nd),Value.slice none 0 0)].map kr)):=lH (by
   refine ⟨fun r hr => ?_,List.pairwise_cons.2 ⟨fun r hr => ?_,by simp⟩⟩
   · rcases List.mem_cons.1 hr with rfl | hr
     · exact own_lone (C:=[.int .i64 c,.int .i64 t,.bool true,.string ⟨#[]⟩,.slice none 0 0]) (Nat.le_refl _) (heap_alloc_new w _)
     · rw [List.mem_singleton.1 hr];exact World.ownsRow_nil _ _ _ _
   · rw [List.mem_singleton.1 hr];exact Rw.Apart.none.symm)
 have HS0:=lH ((Since.refl w).alloc (.cells #[.int .i64 c,.int .i64 t,.bool true,.string ⟨#[]⟩,.slice none 0 0] 87));clear HS;go_loopw [7,16] (fun V i wr => ∃ (a:Nat) (E:List (Nd × Value)),i = .int .i64 (a:Int) /\ a <= Ns.length /\ 0 < E.length /\ Hid (E.map Prod.fst = (Ns.take a).foldl stepN [⟨c,t,true,⟨#[]⟩,[]⟩]) /\ Hid (Rw.Rows wr w.heap.size (⟨87,5,V,E.length,E.flatMap nc⟩ :: E.map kr)) /\ Hid (Since w wr)) (fun _ i _ => Ns.length - (intOf i).toNat)
 case atStart => exact ⟨0,[((⟨c,t,true,⟨#[]⟩,[]⟩:Nd),Value.slice none 0 0)],rfl,Nat.zero_le _,Nat.zero_lt_one,lH rfl,hR0,HS0⟩
 case round =>
   clear HS0 hR0;obtain ⟨a,E,rfl,ha,hE0,hE,HR,HS⟩:=hrel;obtain ⟨g,cc,hV,hc1,hc2⟩:=own_form (HR.out.own _ List.mem_cons_self) hE0;dsimp only at hV;subst hV
   by_cases hlt:a < Ns.length
   · obtain ⟨b,o,c9,hv,l3,l4⟩:=HP.out.form (by omega);obtain ⟨rfl,-,rfl⟩:=Value.slice.inj hv;clear hv;obtain ⟨M,hM⟩:∃ M,Ns[a]? = some M:=⟨_,List.getElem?_eq_getElem hlt⟩
     obtain ⟨x,hx1,hx2⟩:=l4 a M hM;have n0:=(Below.cell HS.out (p:=⟨b,o + a,none⟩) l3).trans hx1;have HX:=lH hx2;have hfs:=fold_snoc [⟨c,t,true,⟨#[]⟩,[]⟩] Ns a M hM;rw [<- hE.out] at hfs;have HFS:=lH hfs;have hMF:=HFF.out M (List.mem_iff_getElem?.2 ⟨a,hM⟩);obtain ⟨XA,xc,rfl,-,-⟩:=hx2.slice
     by_cases hM0:M.length = 0
     · have t1:decide ((0:Int) < (M.length:Int)) = false:=decide_eq_false (by omega);have t2:decide (0 < M.length) = false:=decide_eq_false (by omega);have hE2:Hid (E.map Prod.fst = (Ns.take (a + 1)).foldl stepN [⟨c,t,true,⟨#[]⟩,[]⟩]):=lH (by
         rw [HFS.out];unfold stepN;rw [if_pos hM0])
       clear l4 hx1 hx2 hM hfs;go_wp2_with fail;go_roundw
       case rel => exact ⟨a + 1,E,by go_num,by omega,hE0,hE2,HR,HS⟩
       case measure => (simp [intOf] <;> omega)
     · have t1:decide ((0:Int) < (M.length:Int)) = true:=decide_eq_true (by omega);have t2:decide (0 < M.length) = true:=decide_eq_true (by omega);obtain ⟨⟨hd,kv⟩,E',rfl⟩:∃ y E',E = y :: E':=by
         cases E with
         | nil => exact absurd hE0 (Nat.lt_irrefl _)
         | cons y E' => exact ⟨y,E',rfl⟩
       have hlenE:E'.length + 1 <= 10000:=by
         have h9:=HSM.out a;rw [<- hE.out,List.length_map] at h9;exact h9
       have hkl:hd.k.length <= 100000:=by
         have h9:=HKS.out a hd;rw [<- hE.out] at h9;exact h9 (by simp)
       have hRk:=HR.out.own (kr (hd,kv)) (by simp);obtain ⟨kA,kc,hkv⟩:∃ A c,kv = .slice A hd.k.length c:=own_any hRk;subst hkv;have o2:=((own_cells (HR.out.own _ List.mem_cons_self)).2.2 4 (.slice kA hd.k.length kc) rfl).1;obtain ⟨m,hm⟩:∃ m,m = E'.length + 1:=⟨_,rfl⟩
       have hRR:Rw.Rows wr w.heap.size (([⟨87,5,.slice (some ⟨g,0,none⟩) m cc,m,((hd,.slice kA hd.k.length kc) :: E').flatMap nc⟩]:List Row) ++ ⟨3,1,.slice kA hd.k.length kc,hd.k.length,hd.k.map (Value.int .i64)⟩ :: E'.map kr):=by
         rw [hm];exact HR.out
       have HRR:=lH hRR;have HB1:=lH (show hd.k.length + 1 <= maxLen by unfold maxLen; omega);have HB2:=lH (show (hd.k.length + 1) * 8 <= 140737488355328 by omega);have hm1:0 < m:=by omega
       have x1:(0:Int) < (m:Int):=by omega
       have HM1:=lH (show 4 < m * 5 by omega);have hm3:m <= 10000:=by omega
       have HMM:=lH hm;have e8:((hd,Value.slice kA hd.k.length kc) :: E').length = m:=by rw [hm]; rfl
       rw [e8];clear l4 hx1 hx2 hM hfs hRR HR hRk e8 hlenE hE0 hm;have tok1:True:=trivial;go_wp2_with (first
         | (at_builtin; have _t:=tok1; refine app_rows elemT rfl _ _ (by rfl) w wr _ rfl _ _ (.slice kA hd.k.length kc) hd.k.length _ (by rfl) HRR.out HS.out #[.int .i64 (m:Int)] 1 1 (by rfl) rfl (by intro v hv; simp at hv; subst hv; rfl) HB1.out HB2.out ?_; intro kv2 w6 HQ1 HT1 hk1; obtain ⟨ka,kc2,rfl⟩:∃ A c,kv2 = .slice A (hd.k.length + 1) c:=own_any HQ1.get; have HR6:=lH HQ1; have HS6:=lH HT1; clear HQ1 HT1 hk1 tok1 o2 n0)
         | (refine RwL.store_rows rfl 44 _ _ (by rfl) intl_one w w6 [] (⟨3,1,.slice ka (hd.k.length + 1) kc2,hd.k.length + 1,hd.k.map (Value.int .i64) ++ ([.int .i64 (m:Int)]:List Value)⟩ :: E'.map kr) 87 5 g m cc _ HR6.out HS6.out 4 HM1.out (by rfl) (.slice ka (hd.k.length + 1) kc2) (by rfl) rfl ?_; intro w7 HQ2 HT2 hk2))
       have HS7:=lH HT2;have HQ3:=lH HQ2;clear HQ2 HT2 hk2 HR6 HS6;refine (moved_o M hMF (by omega) (m:Int) (by omega) w7 _ (HX.out.since HS7.out)).mono ?_;rintro _ w8 ⟨v8,rfl,hO,h8⟩;obtain ⟨g',m',D',rfl,hR',hD',hM'⟩:=hO;have hmm':m' = M.length:=by rw [<- hD',<- List.length_map (f:=Prod.fst),hM',List.length_map]
       have hmg:=rows_merge HQ3.out h8 hR' (Below.size HS7.out);have HS8:=lH (HS7.out.step h8);have hcl:=(own_cells (hR'.own _ (show (⟨87,5,.slice (some ⟨g',0,none⟩) m' m',m',(D' ++ []).flatMap nc⟩:Row) ∈ mrows g' m' D' [] from List.mem_cons_self))).2.2;rw [List.append_nil] at hcl;have HCL:=lH hcl;have HMG:=lH (show Rw.Rows w8 w.heap.size ([] ++ ⟨87,5,.slice (some ⟨g,0,none⟩) m cc,m,(((hd,.slice kA hd.k.length kc) :: E').flatMap nc).set 4 (.slice ka (hd.k.length + 1) kc2)⟩ :: (⟨3,1,.slice ka (hd.k.length + 1) kc2,hd.k.length + 1,hd.k.map (Value.int .i64) ++ ([.int .i64 (m:Int)]:List Value)⟩ :: E'.map kr ++ mrows g' m' D' [])) from hmg);have HDL:=lH (show (D'.flatMap nc).length = m' * 5 by rw [flat_nc_len,hD']);have HON:=lH (flat_nc_one D' fun x hx => by
         have h9:=hR'.own (kr x) (List.mem_cons_of_mem _ (List.mem_map.2 ⟨x,hx,rfl⟩));obtain ⟨A9,c9,h9⟩:∃ A c,x.2 = .slice A x.1.k.length c:=own_any h9;rw [h9];rfl)
       have HB3:=lH (show m + m' <= maxLen by have:=hMF.len; unfold maxLen; omega);have HB4:=lH (show (m + m') * 64 <= 140737488355328 by have:=hMF.len; omega);have HM':=lH hM';have HD':=lH hD';clear hmg hR' hD' hM' h8 hcl HQ3 HS7 hmm';go_wp2_with (at_builtin; refine app_from elemN rfl _ _ (by rfl) w w8 [] _ _ m _ (by rfl) HMG.out HS8.out ⟨g',0,none⟩ (D'.flatMap nc) m' m' (by rfl) HDL.out (fun j u hu => by rw [Addr.add_mid,Nat.zero_add]; exact (HCL.out j u hu).1) HON.out HB3.out HB4.out ?_; intro V9 w9 HQ9 HT9)
       have hst:(((hd,Value.slice kA hd.k.length kc) :: E').flatMap nc).set 4 (.slice ka (hd.k.length + 1) kc2) = ((({ hd with k:=hd.k ++ [(m:Int)] }:Nd),Value.slice ka (hd.k.length + 1) kc2) :: E').flatMap nc:=mset [] E' hd (.slice kA hd.k.length kc) (.slice ka (hd.k.length + 1) kc2) (hd.k ++ [(m:Int)]);rw [hst] at HQ9;have hfin:Rw.Rows w9 w.heap.size (⟨87,5,V9,(((({ hd with k:=hd.k ++ [(m:Int)] }:Nd),Value.slice ka (hd.k.length + 1) kc2) :: E') ++ D').length,(((({ hd with k:=hd.k ++ [(m:Int)] }:Nd),Value.slice ka (hd.k.length + 1) kc2) :: E') ++ D').flatMap nc⟩ :: (((({ hd with k:=hd.k ++ [(m:Int)] }:Nd),Value.slice ka (hd.k.length + 1) kc2) :: E') ++ D').map kr):=by
         have e1:(((({ hd with k:=hd.k ++ [(m:Int)] }:Nd),Value.slice ka (hd.k.length + 1) kc2) :: E') ++ D').length = m + m':=by
           rw [List.length_append,HD'.out,HMM.out];rfl
         have e2:kr (({ hd with k:=hd.k ++ [(m:Int)] }:Nd),Value.slice ka (hd.k.length + 1) kc2) = ⟨3,1,.slice ka (hd.k.length + 1) kc2,hd.k.length + 1,hd.k.map (Value.int .i64) ++ ([.int .i64 (m:Int)]:List Value)⟩:=by
           unfold kr;simp
         rw [e1,List.flatMap_append,List.map_append,List.map_cons,e2];refine rows_sub HQ9 (List.Sublist.cons_cons _ ?_);refine List.Sublist.append (List.Sublist.refl _) ?_;exact List.sublist_cons_self _ _
       have HF9:=lH hfin;have HS9:=lH HT9;have HE9:Hid ((((({ hd with k:=hd.k ++ [(m:Int)] }:Nd),Value.slice ka (hd.k.length + 1) kc2) :: E') ++ D').map Prod.fst = (Ns.take (a + 1)).foldl stepN [⟨c,t,true,⟨#[]⟩,[]⟩]):=lH (by
         rw [HFS.out,List.map_append,HM'.out];unfold stepN;rw [if_neg hM0,List.length_map,show ((hd,Value.slice kA hd.k.length kc) :: E').length = m from by rw [HMM.out]; rfl];rfl)
       clear hfin HQ9 HT9 hst;go_wp2_with fail;go_roundw
       case rel => exact ⟨a + 1,_,by go_num,by omega,by rw [List.length_append]; exact Nat.lt_of_lt_of_le (Nat.zero_lt_succ _) (Nat.le_add_right _ _),HE9,HF9,HS9⟩
       case measure => (simp [intOf] <;> omega)
   · obtain rfl:a = Ns.length:=by omega
     have hT:TreeS wr (.slice (some ⟨g,0,none⟩) E.length cc) (ofN c t Ns):=⟨E,⟨SlR.own (HR.out.own _ List.mem_cons_self),fun x hx => by
       have h9:=HR.out.own (kr x) (List.mem_cons_of_mem _ (List.mem_map.2 ⟨x,hx,rfl⟩));have h8:SlR wr 1 x.2 x.1.k.length (x.1.k.map (Value.int .i64)):=SlR.own h9;exact h8⟩,by rw [hE.out,List.take_length]; rfl⟩
     have HT:=lH hT;clear hT;go_wp2_with fail;go_ret;exact ⟨_,rfl,HT.out,HS.out⟩
end Tree
namespace Tree
open Tlv Strs Rw
theorem tops_le (g:F):∀ (i:Nat),(g.tops i).length <= g.cnt:=by
 induction g with
 | nil => intro i; exact Nat.le_refl _
 | prim c t d nx ih => intro i; show (nx.tops (i + 1)).length + 1 <= 1 + nx.cnt; have:=ih (i + 1); omega
 | cons c t ks nx _ ih => intro i; show (nx.tops (i + 1 + ks.cnt)).length + 1 <= 1 + ks.cnt + nx.cnt; have:=ih (i + 1 + ks.cnt); omega
theorem tops_num (g:F):∀ (i:Nat),∀ a ∈ g.tops i,(i:Int) <= a /\ a < (i:Int) + (g.cnt:Int):=by
 induction g with
 | nil => intro i a h; cases h
 | prim c t d nx ih =>
   intro i a h;have hc:(F.prim c t d nx).cnt = 1 + nx.cnt:=rfl;rw [hc];rcases List.mem_cons.1 (show a ∈ (i:Int) :: nx.tops (i + 1) from h) with rfl | h
   · omega
   · have:=ih (i + 1) a h; omega
 | cons c t ks nx _ ih =>
   intro i a h;have hc:(F.cons c t ks nx).cnt = 1 + ks.cnt + nx.cnt:=rfl;rw [hc];rcases List.mem_cons.1 (show a ∈ (i:Int) :: nx.tops (i + 1 + ks.cnt) from h) with rfl | h
   · omega
   · have:=ih (i + 1 + ks.cnt) a h; omega
theorem flat_k (g:F):∀ (i:Nat),∀ x ∈ g.flat i,x.k.length <= g.cnt /\ ∀ a ∈ x.k,(i:Int) <= a /\ a < (i:Int) + (g.cnt:Int):=by
 induction g with
 | nil => intro i x h; cases h
 | prim c t d nx ih =>
   intro i x h;have hc:(F.prim c t d nx).cnt = 1 + nx.cnt:=rfl;rw [hc];rcases List.mem_cons.1 (show x ∈ (⟨c,t,false,d,[]⟩:Nd) :: nx.flat (i + 1) from h) with rfl | h
   · exact ⟨Nat.zero_le _,fun a ha => by cases ha⟩
   · obtain ⟨h1,h2⟩:=ih (i + 1) x h;exact ⟨by omega,fun a ha => by have:=h2 a ha; omega⟩
 | cons c t ks nx ih1 ih2 =>
   intro i x h;have hc:(F.cons c t ks nx).cnt = 1 + ks.cnt + nx.cnt:=rfl;rw [hc];rcases List.mem_cons.1 (show x ∈ (⟨c,t,true,⟨#[]⟩,ks.tops (i + 1)⟩:Nd) :: (ks.flat (i + 1) ++ nx.flat (i + 1 + ks.cnt)) from h) with rfl | h
   · refine ⟨by have:=tops_le ks (i + 1); show (ks.tops (i + 1)).length <= _; omega,fun a ha => ?_⟩;have:=tops_num ks (i + 1) a ha;omega
   · rcases List.mem_append.1 h with h | h
     · obtain ⟨h1,h2⟩:=ih1 (i + 1) x h;exact ⟨by omega,fun a ha => by have:=h2 a ha; omega⟩
     · obtain ⟨h1,h2⟩:=ih2 (i + 1 + ks.cnt) x h;exact ⟨by omega,fun a ha => by have:=h2 a ha; omega⟩
theorem fair_flat (g:F) (h:g.cnt <= 1000):Fair (g.flat 0):=⟨by rw [F.flat_len]; exact h,fun x hx => by have:=(flat_k g 0 x hx).1; omega,fun x hx a ha => by have:=(flat_k g 0 x hx).2 a ha; omega⟩
theorem join_take (gs:List F):∀ (a:Nat),(join (gs.take a)).cnt <= (join gs).cnt:=by
 induction gs with
 | nil => intro a; rw [List.take_nil]; exact Nat.le_refl _
 | cons g l ih =>
   intro a;cases a with
   | zero => exact Nat.zero_le _
   | succ a =>
     show (g.app (join (l.take a))).cnt <= (g.app (join l)).cnt
     rw [F.cnt_app,F.cnt_app];have:=ih a;omega
theorem mem_join (gs:List F):∀ g ∈ gs,g.cnt <= (join gs).cnt:=by
 induction gs with
 | nil => intro g h; cases h
 | cons g l ih =>
   intro g' h
   show _ <= (g.app (join l)).cnt
   rw [F.cnt_app];rcases List.mem_cons.1 h with rfl | h
   · omega
   · have:=ih g' h; omega
theorem of_g (c t:Nat) (gs:List F) (hs:∀ g ∈ gs,single g) (hn:gs.length <= 1000) (hc:(join gs).cnt <= 1000) (w:World) (P:Value) (hP:TreesS w P (gs.map (fun g => g.flat 0))):Calls Tryz.prog 54 #[.int .i64 (c:Int),.int .i64 (t:Int),P] w fun e w' => ∃ v',e = .returned v' /\ TreeS w' v' ((F.cons c t (join gs) .nil).flat 0) /\ Since w w':=by
 have key:∀ a,((gs.map (fun g => g.flat 0)).take a).foldl stepN [⟨(c:Int),(t:Int),true,⟨#[]⟩,[]⟩] = (F.cons c t (join (gs.take a)) .nil).flat 0:=fun a => by
   rw [<- List.map_take];exact ofN_flat c t (gs.take a) (fun g hg => hs g (List.mem_of_mem_take hg))
 have hle:∀ a,(F.cons c t (join (gs.take a)) .nil).cnt <= 1001:=fun a => by
   show 1 + (join (gs.take a)).cnt + 0 <= 1001
   have:=join_take gs a;omega
 have h9:=of_mk (c:Int) (t:Int) (gs.map (fun g => g.flat 0)) (fun N hN => by
     obtain ⟨g,hg,rfl⟩:=List.mem_map.1 hN;exact fair_flat g (by have:=mem_join gs g hg; omega)) (by rw [List.length_map]; exact hn) (fun a => by rw [key a,F.flat_len]; have:=hle a; omega) (fun a x hx => by
     rw [key a] at hx;have:=(flat_k _ 0 x hx).1;have:=hle a;omega) w P hP
 rw [show ofN (c:Int) (t:Int) (gs.map (fun g => g.flat 0)) = (F.cons c t (join gs) .nil).flat 0 from ofN_flat c t gs hs] at h9;exact h9
theorem trees_lit (W:World) (vs:List Value) (Ns:List (List Nd)) (hl:vs.length = Ns.length) (hm:Ns.length <= 1000) (h:∀ (j:Nat) x N,vs[j]? = some x -> Ns[j]? = some N -> TreeS W x N) (C:Array Value) (hC:C = vs.toArray) (t:TypeId) :
   TreesS (W.alloc (.cells C t)) (.slice (some ⟨W.heap.size,0,none⟩) Ns.length Ns.length) Ns :=
 ⟨vs,SlR.lit W 1 Ns.length vs (by omega) (by unfold maxLen; omega) C hC t,fun j x N hx hN => (h j x N hx hN).since ((Since.refl W).alloc _)⟩
end Tree
end Go.Proofs.YtpanhhjkecebkaaGreat
