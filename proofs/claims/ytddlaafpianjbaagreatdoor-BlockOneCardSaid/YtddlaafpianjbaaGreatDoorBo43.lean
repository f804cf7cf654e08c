import Derived.Test.YtddlaafpianjbaaGreatDoorBo42
set_option maxRecDepth 100000
namespace Go.Proofs.YtddlaafpianjbaaGreatDoor
open Go.RowKit
namespace Opt
theorem num_sign2 (a b:Nat) (ha:a < 16) (hb:b < 16):numF [Dig.sign a,Dig.sign b] 0 = ((16 * a + b:Nat):Int):=by
 have h1:=Dig.val_sign _ a ha rfl
 have h2:=Dig.val_sign _ b hb rfl
 show (if Dig.val (Dig.sign a).toNat < 0 then -1 else if Dig.val (Dig.sign b).toNat < 0 then -1 else 16 * (16 * 0 + Dig.val (Dig.sign a).toNat) + Dig.val (Dig.sign b).toNat) = _
 rw [h1,h2,if_neg (by omega),if_neg (by omega)]
 omega
theorem num_sign4 (a b c d:Nat) (ha:a < 16) (hb:b < 16) (hc:c < 16) (hd:d < 16):numF [Dig.sign a,Dig.sign b,Dig.sign c,Dig.sign d] 0 = ((16 * (16 * (16 * a + b) + c) + d:Nat):Int):=by
 have h1:=Dig.val_sign _ a ha rfl
 have h2:=Dig.val_sign _ b hb rfl
 have h3:=Dig.val_sign _ c hc rfl
 have h4:=Dig.val_sign _ d hd rfl
 show (if Dig.val (Dig.sign a).toNat < 0 then -1 else if Dig.val (Dig.sign b).toNat < 0 then -1 else if Dig.val (Dig.sign c).toNat < 0 then -1 else if Dig.val (Dig.sign d).toNat < 0 then -1 else 16 * (16 * (16 * (16 * 0 + Dig.val (Dig.sign a).toNat) + Dig.val (Dig.sign b).toNat) + Dig.val (Dig.sign c).toNat) + Dig.val (Dig.sign d).toNat) = _
 rw [h1,h2,h3,h4,if_neg (by omega),if_neg (by omega),if_neg (by omega),if_neg (by omega)]
 omega
theorem hexL1 (c:UInt8):Dig.hexL [c] = [Dig.sign (c.toNat / 16),Dig.sign (c.toNat % 16)]:=rfl
theorem hexL2 (c e:UInt8):Dig.hexL [c,e] = [Dig.sign (c.toNat / 16),Dig.sign (c.toNat % 16),Dig.sign (e.toNat / 16),Dig.sign (e.toNat % 16)]:=rfl
theorem num_hex1 (n:Nat) (h:n <= 255):numF (hexN (n:Int) 1).data.toList 0 = (n:Int):=by
 have hl:RefOct.low (n:Int) 1 = [UInt8.ofNat n]:=by
   show [UInt8.ofNat ((n:Int) / 2 ^ (8 * 0) % 256).toNat] = _
   congr 2; omega
 unfold hexN
 rw [list_bs,hl,hexL1,UInt8.toNat_ofNat',num_sign2 _ _ (by omega) (by omega)]
 omega
theorem num_hex2 (n:Nat) (h:n <= 65535):numF (hexN (n:Int) 2).data.toList 0 = (n:Int):=by
 have hl:RefOct.low (n:Int) 2 = [UInt8.ofNat (n / 256),UInt8.ofNat (n % 256)]:=by
   show [UInt8.ofNat ((n:Int) / 2 ^ (8 * 1) % 256).toNat,UInt8.ofNat ((n:Int) / 2 ^ (8 * 0) % 256).toNat] = _
   have e1:((n:Int) / 2 ^ (8 * 1) % 256).toNat = n / 256:=by omega
   have e2:((n:Int) / 2 ^ (8 * 0) % 256).toNat = n % 256:=by omega
   rw [e1,e2]
 unfold hexN
 rw [list_bs,hl,hexL2,UInt8.toNat_ofNat',UInt8.toNat_ofNat',num_sign4 _ _ _ _ (by omega) (by omega) (by omega) (by omega)]
 omega
theorem sz (s:ByteArray):s.data.toList.length = s.size:=rfl
theorem take_app {α:Type} (a b:List α) (n:Nat) (h:a.length = n):(a ++ b).take n = a:=by subst h; simp
theorem drop_app {α:Type} (a b:List α) (n:Nat) (h:a.length = n):(a ++ b).drop n = b:=by subst h; simp
theorem ext_mid (s a b c:ByteArray) (h:s = a ++ (b ++ c)) (p q:Nat) (hp:a.size = p) (hq:q = p + b.size):s.extract p q = b:=by
 subst h
 apply ba_ext
 rw [ext_list,app_list,app_list,drop_app _ _ _ hp,hq,Nat.add_sub_cancel_left,take_app _ _ _ (sz b)]
theorem app_assoc (a b c:ByteArray):a ++ b ++ c = a ++ (b ++ c):=by apply ba_ext; rw [app_list,app_list,app_list,app_list,List.append_assoc]
theorem ext_pre (s a b:ByteArray) (h:s = a ++ b) (q:Nat) (hq:a.size = q):s.extract 0 q = a:=by
 subst h
 apply ba_ext
 rw [ext_list,app_list,List.drop_zero,Nat.sub_zero,take_app _ _ _ (by rw [sz]; exact hq)]
theorem ext_suf (s a b:ByteArray) (h:s = a ++ b) (q:Nat) (hq:a.size = q):s.extract q s.size = b:=by
 subst h
 apply ba_ext
 rw [ext_list,app_list,drop_app _ _ _ (by rw [sz]; exact hq),List.take_of_length_le]
 rw [sz,ByteArray.size_append]; omega
theorem cut_mid (s a b c:ByteArray) (h:s = a ++ (b ++ c)) (p q:Nat) (hp:a.size = p) (hq:b.size = q):(s.data.toList.drop p).take q = b.data.toList:=by
 subst h
 rw [app_list,app_list,drop_app _ _ _ (by rw [sz]; exact hp),take_app _ _ _ (by rw [sz]; exact hq)]
theorem dec_fwd (i d rest s:ByteArray) (hm:may i d = true) (hs:s = enc i d ++ rest):okD s = true /\ decI s = i /\ decD s = d /\ decN s = ((enc i d).size:Int):=by
 obtain ⟨hi,hd9⟩:=may_sizes i d hm
 have hz:=enc_size i d hm
 have fin:∀ h:Nat,h <= (enc i d).size -> hd s = (((enc i d).size:Int),h) -> s.extract 0 2 = i -> s.extract h (enc i d).size = d -> okD s = true /\ decI s = i /\ decD s = d /\ decN s = ((enc i d).size:Int):=by
   intro h hle e h1 h2
   have h3:=ext_pre s (enc i d) rest hs _ rfl
   have hk:okD s = true:=by
     rw [okD_in s (enc i d).size h e hle (by rw [hs,ByteArray.size_append]; omega) i d _ h1 h2 h3,hm,decide_eq_true rfl]; rfl
   refine ⟨hk, ?_, ?_, ?_⟩
   · unfold decI; rw [if_pos hk,h1]
   · unfold decD; rw [if_pos hk,e]; exact h2
   · unfold decN; rw [if_pos hk,e]
 by_cases h:d.size <= 251
 · rw [if_pos h] at hz
   have he:s = i ++ (hexN ((d.size:Int) + 4) 1 ++ (d ++ rest)):=by
     rw [hs]; unfold enc; rw [if_pos h,app_assoc,app_assoc]
   have h1:s.extract 0 2 = i:=ext_pre s i _ he 2 hi
   have h2:t2 s = (hexN ((d.size:Int) + 4) 1).data.toList:=cut_mid s i _ _ he 2 2 hi (hexN_size _ 1)
   have hss:s.size = (enc i d).size + rest.size:=by rw [hs,ByteArray.size_append]
   have h3:v2 s = ((enc i d).size:Int):=by
     unfold v2
     rw [if_neg (by omega),h2]
     have:=num_hex1 (d.size + 4) (by omega)
     rw [show (((d.size + 4:Nat):Int)) = (d.size:Int) + 4 by omega] at this
     rw [this,hz]; omega
   refine fin 4 (by omega) (by unfold hd; rw [if_neg (by rw [h3]; omega),h3]) h1 ?_
   refine ext_mid s (i ++ hexN ((d.size:Int) + 4) 1) d rest (by rw [he,app_assoc]) 4 _ (by rw [ByteArray.size_append,hexN_size]; omega) (by omega)
 · rw [if_neg h] at hz
   have he:s = i ++ (⟨#[48,48,48,52]⟩ ++ (hexN ((d.size:Int) + 10) 2 ++ (d ++ rest))):=by
     rw [hs]; unfold enc; rw [if_neg h,app_assoc,app_assoc,app_assoc]
   have h1:s.extract 0 2 = i:=ext_pre s i _ he 2 hi
   have he2:s = i ++ (⟨#[48,48]⟩ ++ (⟨#[48,52]⟩ ++ (hexN ((d.size:Int) + 10) 2 ++ (d ++ rest)))):=by
     rw [he,<- app_assoc ⟨#[48,48]⟩]; rfl
   have h4:(⟨#[48,48,48,52]⟩:ByteArray).size = 4:=rfl
   have he3:s = (i ++ ⟨#[48,48,48,52]⟩) ++ (hexN ((d.size:Int) + 10) 2 ++ (d ++ rest)):=by rw [he,app_assoc]
   have h2:t2 s = [48,48]:=cut_mid s i ⟨#[48,48]⟩ _ he2 2 2 hi rfl
   have h5:t4 s = (hexN ((d.size:Int) + 10) 2).data.toList:=cut_mid s _ _ _ he3 6 4 (by rw [ByteArray.size_append]; omega) (hexN_size _ 2)
   have hss:s.size = (enc i d).size + rest.size:=by rw [hs,ByteArray.size_append]
   have hv2:v2 s = 0:=by unfold v2; rw [if_neg (by omega),h2]; decide +kernel
   have h3:v4 s = ((enc i d).size:Int):=by
     unfold v4
     rw [if_neg (by omega),h5]
     have:=num_hex2 (d.size + 10) (by omega)
     rw [show (((d.size + 10:Nat):Int)) = (d.size:Int) + 10 by omega] at this
     rw [this,hz]; omega
   refine fin 10 (by omega) (by unfold hd; rw [if_pos hv2,h3]) h1 ?_
   refine ext_mid s (i ++ ⟨#[48,48,48,52]⟩ ++ hexN ((d.size:Int) + 10) 2) d rest (by rw [he3,<- app_assoc]) 10 _ (by rw [ByteArray.size_append,ByteArray.size_append,hexN_size]; omega) (by omega)
theorem catP_app (a b:List P2):catP (a ++ b) = catP a ++ catP b:=by
 apply ba_ext
 unfold catP encs
 rw [app_list,list_bs,list_bs,list_bs,List.map_append]
 simp [Oct.cat]
theorem catP_cons (p:P2) (b:List P2):catP (p :: b) = enc p.1 p.2 ++ catP b:=by
 apply ba_ext
 unfold catP encs
 rw [app_list,list_bs,list_bs]
 simp [Oct.cat]
theorem decs_fwd (l:List P2) (hm:∀ p ∈ l,may p.1 p.2 = true) (rest s:ByteArray) (hs:s = catP l ++ rest):∀ k,k <= l.length -> decs s k = some (l.take k,(catP (l.take k)).size):=by
 intro k
 induction k with
 | zero => intro _; rfl
 | succ k ih =>
   intro hk
   obtain ⟨p,hp⟩:∃ p,l[k]? = some p:=⟨l[k]'(by omega),List.getElem?_eq_getElem _⟩
   have hsplit:s = catP (l.take k) ++ (enc p.1 p.2 ++ (catP (l.drop (k + 1)) ++ rest)):=by
     have e:l = l.take k ++ (p :: l.drop (k + 1)):=by
       obtain ⟨h1,h2⟩:=List.getElem?_eq_some_iff.1 hp
       rw [<- h2,<- List.drop_eq_getElem_cons h1,List.take_append_drop]
     rw [hs]
     conv => lhs; rw [e]
     rw [catP_app,catP_cons,app_assoc,app_assoc]
   have hT:=ext_suf s _ _ hsplit _ rfl
   obtain ⟨h1,h2,h3,h4⟩:=dec_fwd p.1 p.2 _ _ (hm p (List.mem_of_getElem? hp)) hT
   have e2:catP [p] = enc p.1 p.2:=by
     rw [catP_cons]
     exact ba_ext (by rw [app_list]; exact List.append_nil _)
   rw [decs_step s k _ _ (ih (by omega)),if_pos h1,h2,h3,h4,take_snoc l k p hp,catP_app,e2,ByteArray.size_append,Int.toNat_natCast]
theorem padV_form (n:Int) (h:(padV n).size ≠ 0):padV n = enc PB (zerosB (padM n)):=by
 unfold padV at h ⊢
 split
 · rename_i h2; rw [if_pos h2] at h; exact absurd rfl h
 · rfl
theorem size0 (s:ByteArray) (h:s.size = 0):s = ⟨#[]⟩:=by apply ba_ext; exact List.length_eq_zero_iff.1 h
theorem trim_okN (l:List P2) (h:okN l l.length = true):trimP l = l:=by
 by_cases h0:l.length = 0
 · obtain rfl:=List.length_eq_zero_iff.1 h0; rfl
 · obtain ⟨m,hm⟩:∃ m,l.length = m + 1:=⟨l.length - 1,by omega⟩
   obtain ⟨p,hp⟩:∃ p,l[m]? = some p:=⟨l[m]'(by omega),List.getElem?_eq_getElem _⟩
   rw [trim_at l m p hm hp,if_neg]
   rw [hm,okN_succ l m p hp,Bool.and_eq_true] at h
   have h2:=h.2
   unfold stepB at h2
   rw [Bool.and_eq_true,Bool.and_eq_true] at h2
   intro he
   have:=h2.1.2
   rw [decide_eq_true he] at this
   cases this
theorem packX_size (l:List P2) (hk:packOk l = true):(packX l).size = (catP l).size + (padP l).size:=by unfold packX; rw [if_pos hk,ByteArray.size_append]
theorem unp_fwd (l:List P2) (hk:packOk l = true) (rest s:ByteArray) (hs:s = packX l ++ rest):unpOk s (packN l) = some (l,(packX l).size):=by
 have hk2:=hk
 unfold packOk at hk2
 rw [Bool.and_eq_true,Bool.and_eq_true] at hk2
 have hok:=hk2.1.1
 have hmay:∀ p ∈ l,may p.1 p.2 = true:=fun p hp => okN_may l l.length hok p (by rw [List.take_length]; exact hp)
 have hX:packX l = catP l ++ padP l:=by unfold packX; rw [if_pos hk]
 have hN:=packN_ok l hk
 have hpre:s.extract 0 (packX l).size = packX l:=ext_pre s _ _ hs _ rfl
 have key:decs s (cntP l) = some (if (padP l).size = 0 then l else l ++ [(PB,zerosB (padM ((catP l).size:Int)))],(packX l).size):=by
   by_cases h0:(padP l).size = 0
   · have hc:cntP l = l.length:=by unfold cntP; rw [if_pos h0]; rfl
     have hX2:packX l = catP l:=by rw [hX,size0 _ h0]; apply ba_ext; rw [app_list]; simp
     have:=decs_fwd l hmay rest s (by rw [hs,hX2]) l.length (Nat.le_refl _)
     rw [List.take_length] at this
     rw [hc,this,if_pos h0,hX2]
   · have hc:cntP l = l.length + 1:=by unfold cntP; rw [if_neg h0]
     have hpf:padP l = enc PB (zerosB (padM ((catP l).size:Int))):=padV_form _ h0
     have hX2:catP (l ++ [(PB,zerosB (padM ((catP l).size:Int)))]) = packX l:=by
       rw [catP_snoc,hX,hpf]
     have:=decs_fwd (l ++ [(PB,zerosB (padM ((catP l).size:Int)))]) (fun p hp => by
       rcases List.mem_append.1 hp with hp | hp
       · exact hmay p hp
       · obtain rfl:p = _:=by simpa using hp
         exact may_pad _ (padM_lt _)) rest s (by rw [hs,hX2]) (l.length + 1) (by simp)
     rw [List.take_of_length_le (by simp),hX2] at this
     rw [hc,this,if_neg h0]
 have htrim:trimP (if (padP l).size = 0 then l else l ++ [(PB,zerosB (padM ((catP l).size:Int)))]) = l:=by
   split
   · exact trim_okN l hok
   · rw [trim_snoc,if_pos rfl]
 unfold unpOk
 rw [hN,Int.toNat_natCast,key]
 show (if packOk (trimP _) = true /\ (cntP (trimP _):Int) = (cntP l:Int) /\ packX (trimP _) = s.extract 0 (packX l).size then some (trimP _,(packX l).size) else none) = _
 rw [htrim,if_pos ⟨hk,rfl,hpre.symm⟩]
end Opt
namespace Opt
end Opt
end Go.Proofs.YtddlaafpianjbaaGreatDoor
namespace Go.Proofs.YtddlaafpianjbaaGreatDoor
open Go.RowKit Go.Deep
namespace Opt
theorem unp_some (s:ByteArray) (m:Int) (L:List P2) (A:Nat) (h:unpOk s m = some (L,A)):packOk L = true /\ (cntP L:Int) = m /\ packX L = s.extract 0 A /\ A <= s.size /\ L.length <= 98 /\ ∀ p ∈ L,p.1.size <= s.size /\ p.2.size <= s.size:=by
 unfold unpOk at h
 cases hd:decs s m.toNat with
 | none => rw [hd] at h; cases h
 | some q =>
   obtain ⟨L',A'⟩:=q
   rw [hd] at h
   have h2:(if packOk (trimP L') = true /\ (cntP (trimP L'):Int) = m /\ packX (trimP L') = s.extract 0 A' then some (trimP L',A') else none) = some (L,A):=h
   split at h2
   · rename_i hc
     simp only [Option.some.injEq,Prod.mk.injEq] at h2
     obtain ⟨rfl,rfl⟩:=h2
     obtain ⟨h3,h4,h5⟩:=decs_len s _ _ _ hd
     have h6:=decs_sizes s _ _ _ hd
     refine ⟨hc.1,hc.2.1,hc.2.2,h4, ?_,fun p hp => h6 p ?_⟩
     · have hk:=hc.1
       unfold packOk at hk
       rw [Bool.and_eq_true,Bool.and_eq_true] at hk
       have:=of_decide_eq_true hk.1.2
       unfold cntP at this
       omega
     · unfold trimP at hp
       split at hp
       · rw [List.dropLast_eq_take] at hp; exact List.mem_of_mem_take hp
       · exact hp
   · cases h2
end Opt
end Go.Proofs.YtddlaafpianjbaaGreatDoor
