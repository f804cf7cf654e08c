import Derived.Test.YtddlaafpianjbaaGreatDoorBo14
import Derived.Test.YtddlaafpianjbaaGreatDoorBo18
import Derived.Deep.AppendLies
set_option maxRecDepth 100000
namespace Go.Proofs.YtddlaafpianjbaaGreatDoor
open Go.RowKit
namespace Templ
open Att
def partsT (p:A2):List ByteArray:=[bs (RefOct.low p.1 2),bs (RefOct.low (p.2.size:Int) 1),p.2]
def pts (l:List A2):List ByteArray:=l.flatMap partsT
def rawT (l:List A2):List UInt8:=Oct.cat (pts l)
def encT (l:List A2):ByteArray:=if attOk l then bs (Dig.hexL (rawT l)) else ⟨#[]⟩
def encV (l:List A2):Value:=.tuple #[.string (encT l),.int .i64 (attE l)]
theorem pts_snoc (l:List A2) (k:Nat) (t:Int) (s:ByteArray) (h:l[k]? = some (t,s)):pts (l.take (k + 1)) = pts (l.take k) ++ [bs (RefOct.low t 2),bs (RefOct.low (s.size:Int) 1),s]:=by
 unfold pts
 rw [take_snoc l k _ h,List.flatMap_append]; rfl
theorem pts_len (l:List A2):(pts l).length = 3 * l.length:=by
 unfold pts
 induction l with
 | nil => rfl
 | cons a l ih => rw [List.flatMap_cons,List.length_append,ih,List.length_cons]; show 3 + _ = _; omega
theorem cat_app (a b:List ByteArray):Oct.cat (a ++ b) = Oct.cat a ++ Oct.cat b:=by unfold Oct.cat; simp
theorem rawT_cons (p:A2) (l:List A2):rawT (p :: l) = RefOct.low p.1 2 ++ (RefOct.low (p.2.size:Int) 1 ++ (p.2.data.toList ++ rawT l)):=by
 unfold rawT pts
 rw [List.flatMap_cons,cat_app]
 unfold partsT Oct.cat
 simp [list_bs]
theorem rawT_len (l:List A2) (h:∀ p ∈ l,p.2.size <= 255):(rawT l).length <= 258 * l.length:=by
 induction l with
 | nil => exact Nat.le_refl _
 | cons p l ih =>
   have h1:=ih (fun q hq => h q (List.mem_cons_of_mem _ hq))
   have h2:=h p List.mem_cons_self
   rw [rawT_cons]
   simp only [List.length_append,RefOct.low_len,List.length_cons]
   have:p.2.data.toList.length = p.2.size:=rfl
   omega
def OwnT (w W:World) (v:Value) (ss:List ByteArray):Prop:=W.ownsRow w.heap.size 9 1 v ss.length (ss.map Value.string)
structure PE (w:World) (v:Value) (ss:List ByteArray) (g:Nat) (t:Int) (s:ByteArray) (W:World):Prop where
 own:OwnT w W v ss
 since:Since w W
 c0:W.cell? ⟨g,0,none⟩ = some (.int .i64 t)
 c1:W.cell? ⟨g,1,none⟩ = some (.string s)
 lg:g < W.heap.size
theorem pe_step {w:World} {v:Value} {ss:List ByteArray} {g:Nat} {t:Int} {s:ByteArray} {W W':World} (hb:Below W.heap.size W W') (h:Hid (PE w v ss g t s W)):Hid (PE w v ss g t s W') :=
 lH ⟨row_since h.out.own hb,h.out.since.step hb,(hb.cell (p:=⟨g,0,none⟩) h.out.lg).trans h.out.c0,(hb.cell (p:=⟨g,1,none⟩) h.out.lg).trans h.out.c1,Nat.lt_of_lt_of_le h.out.lg hb.size⟩
theorem pe_drew {w:World} {v:Value} {ss:List ByteArray} {g:Nat} {t:Int} {s:ByteArray} {W:World} (h:Hid (PE w v ss g t s W)):Hid (PE w v ss g t s W.drew):=pe_step (Below.drew (Below.refl _ _)) h
theorem pe_alloc {w:World} {v:Value} {ss:List ByteArray} {g:Nat} {t:Int} {s:ByteArray} {W:World} (o:Obj) (h:Hid (PE w v ss g t s W)):Hid (PE w v ss g t s (W.alloc o)):=pe_step (Below.alloc (Below.refl _ _) (Nat.le_refl _) o) h
theorem pe_new {w wr:World} {v:Value} {ss:List ByteArray} (t:Int) (s:ByteArray) (ho:OwnT w wr v ss) (hs:Since w wr) (T:TypeId):PE w v ss wr.heap.size t s (wr.alloc (.cells #[.int .i64 t,.string s] T)) :=
 ⟨World.ownsRow.alloc ho _,hs.alloc _,World.cell?_alloc_new _ _ _ _,World.cell?_alloc_new _ _ _ _,by simp⟩
theorem step_own {T E:TypeId} {z:Value} {size bytes:Nat} (I:ElemIs T E z size bytes) {ops:Array Oper} {o:Oper} {a:Act} {K:Act -> World -> Prop} {Q:Exit -> Act -> World -> Prop} {E':Prop} (hgd:o.guard = none) (s x:Operand)
   (ho:o.op = .call { callee:=.builtin .append,args:=#[s,x],argTypes:=#[T,T] })
   (w0 w:World) (v:Value) (n:Nat) (xs:List Value) (hs:a.eval s = v) (hown:w.ownsRow w0.heap.size E size v n xs) (hS:Since w0 w)
   (g0 m c:Nat) (ys:List Value) (hx:a.eval x = .slice (some ⟨g0,0,none⟩) m c) (hl:ys.length = m * size) (hc:∀ j u,ys[j]? = some u -> w.cell? ⟨g0,j,none⟩ = some u) (h1:∀ u ∈ ys,u.oneCell' = true) (hm0:0 < m) (hm:m <= 1000) (hn:n <= 1099511627776) (hby:bytes <= 64)
   (h:∀ v' w',w'.ownsRow w0.heap.size E size v' (n + m) (xs ++ ys) -> Since w0 w' -> K (a.put o.dst v') w') :
   if Region.wanted o (yielded ops a.tmps) = true then Oper.wp Tryz.prog o a w K Q else E':=by
 obtain ⟨ht,hi,hz,hs0⟩:=I
 obtain ⟨i,hi0,hz0,hz1,hz2⟩:=info_parts hi
 refine step_append_lies w hgd s x T ho w0.heap.size E i z size bytes ht hi0 hz0 hz1 hz2 hz hs0 v n xs hs hown ⟨g0,0,none⟩ m c ys hx hl ?_ h1 hm0 (by unfold maxLen; omega) ?_ (Below.size hS) w.heap.size rfl ?_
 · intro j u hu
   have hadd:(⟨g0,0,none⟩:Addr).add j = ⟨g0,j,none⟩:=by unfold Addr.add; split <;> simp_all
   rw [hadd]
   exact hc j u hu
 · exact Nat.le_trans (Nat.mul_le_mul (show n + m <= 1099511628776 by omega) hby) (by decide)
 · intro g cap w' hown' hg hat hlt
   refine h _ w' hown' ?_
   exact Below.grown hS hg (Below.size hS) (fun k hk => (hown.lt k hk).1)
theorem enc_no (l:List A2) (E:Int) (hE:E ≠ 0) (c1:RdA 92 l (fun x => #[x]) (.int .i64 E)):RdA 138 l (fun x => #[x]) (.tuple #[.string ⟨#[]⟩,.int .i64 E]):=by
 intro w x hx
 have t1:(E == 0) = false:=beq_eq_false_iff_ne.2 hE
 have HX:=lH hx
 have HS:=lH (Since.refl w)
 clear hx hE
 go_enter Tryz.func138,Tryz.ntmps138
 go_wp2_with fail
 refine (c1.calls0 HX.out) ?_
 intro w1 h1
 replace HS:=lH (HS.out.step (Up.up h1))
 clear h1
 go_wp2_with fail
 go_ret2
 exact ⟨rfl,HS.out⟩
theorem enc_nil:RdA 138 [] (fun x => #[x]) (.tuple #[.string ⟨#[]⟩,.int .i64 0]):=by
 intro w x hx
 have c1:=check_rd [] 0 rfl
 have c4:Mak 61 #[.string ⟨#[]⟩] (.string ⟨#[]⟩):=fun W => Dig.hex_any ⟨#[]⟩ W (by decide)
 have HX:=lH hx
 have HS:=lH (Since.refl w)
 obtain ⟨A,c,rfl,_⟩:=hx.empty rfl
 clear hx
 go_enter Tryz.func138,Tryz.ntmps138
 go_wp2_with fail
 refine (c1.calls0 HX.out) ?_
 intro w1 h1
 replace HS:=lH (HS.out.step (Up.up h1))
 clear h1
 go_wp2_with fail
 go_loopw [5,7,15] (fun s _ i wr => i = .int .i64 0 /\ s = .slice none 0 0 /\ Hid (Since w wr)) (fun _ _ i _ => 0 - (intOf i).toNat)
 case atStart => exact ⟨rfl,rfl,HS⟩
 case round =>
   obtain ⟨rfl,rfl,HS⟩:=hrel
   go_wp2_with fail
   refine (Oct.join_nil _ _ _).mono ?_
   rintro e wj ⟨rfl,hj⟩
   replace HS:=lH (HS.out.step hj)
   clear hj
   go_wp2_with fail
   refine (c4.calls0) ?_
   intro w2 h2
   replace HS:=lH (HS.out.step (Up.up h2))
   clear h2
   go_wp2_with fail
   go_ret2
   exact ⟨rfl,HS.out⟩
set_option maxHeartbeats 16000000 in
theorem enc_some (l:List A2) (h0:0 < l.length) (hok:attOk l = true) (X:ByteArray) (hX:X = bs (Dig.hexL (rawT l))):RdA 138 l (fun x => #[x]) (.tuple #[.string X,.int .i64 0]):=by
 intro w x hx
 have c1:=check_rd l 0 (((attE_zero l).2 hok).symm)
 obtain ⟨h32,hall⟩:=attOk_all l hok
 obtain ⟨b,o,c,rfl,h1,h2,h3,h4⟩:=hx.form h0
 have hrl:=rawT_len l (fun p hp => (hall p hp).2.2)
 have c4:Mak 61 #[.string (bs (rawT l))] (.string X):=fun W => by rw [hX]; exact Dig.hex_any (bs (rawT l)) W (by rw [size_bs]; omega)
 have HX:=lH hx
 obtain ⟨n,hn⟩:∃ n,n = l.length:=⟨_,rfl⟩
 rw [<- hn] at h0 h32 h1 HX hrl ⊢
 have HS:=lH (Since.refl w)
 have HC:=lH h4
 have HN:=lH hn
 have HALL:=lH hall
 obtain ⟨R,hR⟩:∃ R,rawT l = R:=⟨_,rfl⟩
 rw [hR] at c4 hrl
 have HR:=lH hR
 clear h4 hx hn hall hX hok hR
 go_enter Tryz.func138,Tryz.ntmps138
 go_wp2_with fail
 refine (c1.calls0 HX.out) ?_
 intro w1 h1
 replace HS:=lH (HS.out.step (Up.up h1))
 clear h1
 go_wp2_with fail
 obtain ⟨wS,hwS⟩:∃ wS,wS = w1:=⟨_,rfl⟩
 clear hwS wS
 go_loopw [5,7,15] (fun s _ i wr => ∃ k:Nat,k <= n /\ i = .int .i64 (k:Int) /\ Hid (OwnT w wr s (pts (l.take k))) /\ Hid (Since w wr)) (fun _ _ i _ => n - (intOf i).toNat)
 case atStart => exact ⟨0,by omega,rfl,lH (World.ownsRow_nil _ _ _ _),HS⟩
 case round =>
   clear HS
   obtain ⟨k,hk,rfl,HO,HS⟩:=hrel
   by_cases hlt:k < n
   · obtain ⟨⟨t,s⟩,hs⟩:∃ s,l[k]? = some s:=⟨l[k]'(by rw [<- HN.out]; exact hlt),List.getElem?_eq_getElem _⟩
     obtain ⟨m0,m1⟩:=HC.out k _ hs
     replace m0:wr.cell? ⟨b,o + k * 2,none⟩ = some (.int .i64 t):=(Below.cell HS.out (p:=⟨b,o + k * 2,none⟩) h3).trans m0
     replace m1:wr.cell? ⟨b,o + k * 2 + 1,none⟩ = some (.string s):=(Below.cell HS.out (p:=⟨b,o + k * 2 + 1,none⟩) h3).trans m1
     obtain ⟨q1,q2,q3⟩:=HALL.out (t,s) (List.mem_of_getElem? hs)
     replace q1:1 <= t:=q1
     replace q2:t <= 65535:=q2
     replace q3:s.size <= 255:=q3
     have hpt:=pts_snoc l k t s hs
     have hpl:(pts (l.take k)).length = 3 * k:=by rw [pts_len,List.length_take]; have:=HN.out; omega
     clear hs
     have c2:Mak 57 #[.int .u64 t,.int .i64 2] (.string (bs (RefOct.low t 2))):=fun W => by
       have h:=Oct.put_mid t 2 W (by omega) (by omega) (by decide) (by decide)
       rw [RefOct.put_same t 2 (by decide)] at h
       exact h
     have c3:Mak 57 #[.int .u64 (s.size:Int),.int .i64 1] (.string (bs (RefOct.low (s.size:Int) 1))):=fun W => by
       have h:=Oct.put_mid (s.size:Int) 1 W (by omega) (by omega) (by decide) (by decide)
       rw [RefOct.put_same (s.size:Int) 1 (by decide)] at h
       exact h
     obtain ⟨P,hP⟩:∃ P,bs (RefOct.low t 2) = P:=⟨_,rfl⟩
     obtain ⟨Q,hQ⟩:∃ Q,bs (RefOct.low (s.size:Int) 1) = Q:=⟨_,rfl⟩
     obtain ⟨ss,hss⟩:∃ ss,pts (l.take k) = ss:=⟨_,rfl⟩
     rw [hP] at c2 hpt
     rw [hQ] at c3 hpt
     rw [hss] at hpt hpl HO
     have e1:IntKind.u64.wrap t = t:=IntWalk.u64_in _ (by omega)
     have e2:IntKind.u64.wrap (s.size:Int) = (s.size:Int):=IntWalk.u64_in _ (by omega)
     obtain ⟨W1,hW1⟩:∃ W1,W1 = wr.alloc (.cells #[.int .i64 t,.string s] 68):=⟨_,rfl⟩
     have hpe:Hid (PE w u5 ss wr.heap.size t s W1):=lH (by rw [hW1]; exact pe_new t s HO.out HS.out _)
     clear hP hQ hss HO
     have Hpt:=lH hpt
     clear hpt
     have Hpl:=lH hpl
     clear hpl
     go_wp2_with fail
     rw [<- hW1]
     have p0:=hpe.out.c0
     have p1:=hpe.out.c1
     clear hW1 m0 m1 HS
     go_region_law (first
       | (refine step_own elemS rfl _ _ (by rfl) w _ u5 _ (ss.map Value.string) (by rfl) (Hid.out (by first | assumption | exact pe_drew (by assumption) | exact pe_alloc _ (by assumption) | exact pe_drew (pe_alloc _ (by assumption)) | exact pe_alloc _ (pe_drew (by assumption))):PE w u5 ss wr.heap.size t s _).own (Hid.out (by first | assumption | exact pe_drew (by assumption) | exact pe_alloc _ (by assumption) | exact pe_drew (pe_alloc _ (by assumption)) | exact pe_alloc _ (pe_drew (by assumption))):PE w u5 ss wr.heap.size t s _).since _ 3 _ [.string P,.string Q,.string s] (by rfl) rfl (by intro j u hu; rcases j with _ | _ | _ | j <;> simp at hu <;> subst hu <;> simp [go_sem]) (by simp [Value.oneCell']) (by decide) (by decide) (by have:=Hpl.out; omega) (by decide) ?_; intro v7 w7 hown7 hS7)
       | (go_simp; go_at_call 57; with_reducible refine c2.calls0 ?_; intro w5 h5; have hp5:=pe_step h5 (by first | assumption | exact pe_drew (by assumption)); have k5:=hp5.out.c0; have k5':=hp5.out.c1; clear h5)
       | (go_simp; go_at_call 57; with_reducible refine c3.calls0 ?_; intro w6 h6; have hp6:=pe_step h6 (by first | assumption | exact pe_drew (by assumption)); have k6:=hp6.out.c0; have k6':=hp6.out.c1; clear h6))
     all_goals
       have HO7:Hid (OwnT w w7 v7 (pts (l.take (k + 1)))):=lH (by rw [Hpt.out]; unfold OwnT; rw [List.length_append,List.map_append]; exact hown7)
       have HS7:=lH hS7
       clear hown7 hS7
       go_wp2_with fail
       go_roundw
       case rel => exact ⟨k + 1,by omega,by go_num,lH (by first | exact HO7.out | exact row_since HO7.out (Since.drew (Since.refl _))),lH (by first | exact HS7.out | exact Since.drew HS7.out)⟩
       case measure => simp [intOf]; omega
   · obtain rfl:n = k:=by omega
     have ho:=HO.out
     rw [HN.out,List.take_length] at ho
     have hss:StrsR wr u5 (pts l):=Strs.read (base:=w.heap.size) ho
     have hJ:=Oct.join_strs _ _ (pts l) hss (by rw [show Oct.cat (pts l) = R from HR.out]; omega) (by rw [pts_len,<- HN.out]; omega)
     rw [show Oct.cat (pts l) = R from HR.out] at hJ
     have HJ:=lH hJ
     clear hJ hss HO ho
     go_wp2_with fail
     refine HJ.out.mono ?_
     rintro e wj ⟨rfl,hj⟩
     replace HS:=lH (HS.out.step hj)
     clear hj HJ
     go_wp2_with fail
     refine (c4.calls0) ?_
     intro w2 h2
     replace HS:=lH (HS.out.step (Up.up h2))
     clear h2
     go_wp2_with fail
     go_ret2
     exact ⟨rfl,HS.out⟩
theorem encode_rd (l:List A2):RdA 138 l (fun x => #[x]) (encV l):=by
 unfold encV
 by_cases hok:attOk l = true
 · have hE:=(attE_zero l).2 hok
   rw [hE]
   have hX:encT l = bs (Dig.hexL (rawT l)):=by unfold encT; rw [if_pos hok]
   by_cases h0:l.length = 0
   · obtain rfl:=List.length_eq_zero_iff.1 h0
     exact enc_nil
   · exact enc_some l (by omega) hok _ hX
 · have hE:attE l ≠ 0:=fun h => hok ((attE_zero l).1 h)
   have hX:encT l = ⟨#[]⟩:=by unfold encT; rw [if_neg hok]
   rw [hX]
   exact enc_no l _ hE (check_rd l _ rfl)
end Templ
end Go.Proofs.YtddlaafpianjbaaGreatDoor
