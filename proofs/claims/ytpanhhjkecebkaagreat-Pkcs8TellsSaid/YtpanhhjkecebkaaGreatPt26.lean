import Derived.Test.YtpanhhjkecebkaaGreatPt22
import Derived.Laws.EntriesVeiled
set_option maxRecDepth 100000
namespace Go.Proofs.YtpanhhjkecebkaaGreat
open Go.RowKit Go.Shelf
attribute [local go_sem] Oper.semAt_some
theorem below_keeps {W W':World} (B:Nat) (h:Below W.heap.size W W'):KeepsFrom B W W' :=
 ⟨h.size,fun k _o _ hk _ => (h.block k (Array.getElem?_eq_some_iff.1 hk).1).trans hk⟩
theorem below_walks {W W':World} (h:Below W.heap.size W W'):KeepsWalks W W' :=
 ⟨h.size,fun k _o hk _ => (h.block k (Array.getElem?_eq_some_iff.1 hk).1).trans hk⟩
namespace Prn
structure PrS (n:Nat) (q:Bool) (W:World):Prop where
 bq:Boxed W n 4 (.bool q)
 bg:Boxed W (n + 1) 216 (.func (.func 180) #[] #[])
 ba:Boxed W (n + 1 + 1) 220 (.func (.func 181) #[] #[.pointer (some ⟨n + 1,0,none⟩)])
theorem PrS.turn {n:Nat} {q:Bool} {W W':World} {row:Option Nat} (h:PrS n q W) (hg:W.grownBy W' row) (hr:∀ r,row = some r -> ∃ o:Obj,W.heap[r]? = some o /\ o.isCells = false):PrS n q W' :=
 ⟨Boxed_own h.bq hg hr,Boxed_own h.bg hg hr,Boxed_own h.ba hg hr⟩
theorem PrS.below {n:Nat} {q:Bool} {W W':World} (h:PrS n q W) (hs:Below W.heap.size W W'):PrS n q W' :=
 ⟨Boxed_below h.bq hs,Boxed_below h.bg hs,Boxed_below h.ba hs⟩
set_option maxHeartbeats 4000000 in
theorem printable_in (s:ByteArray) (hm:s.size <= 1000000) (q:Bool) (hq:q = prnB s.data.toList) (w:World) :
   CallsIn Fence.wide 9 Tryz.prog 172 #[.string s] w fun e w' => e = .returned (.bool q) /\ Below w.heap.size w w':=by
 have hq2:q = (rsP s 0).all (fun x => okN x.1):=by rw [rs_prn s s.size 0 (by omega),List.drop_zero]; exact hq
 have HQ:=lH hq2;have HM:=lH hm;clear hq hq2 hm;refine callsIn_of_wp_marks Tryz.func172 rfl trivial ?_ rfl;simp only [Tryz.ntmps172,List.size_toArray,List.length_cons,List.length_nil,Nat.reduceAdd,Nat.reduceSub,Array.replicate_succ,Array.replicate_zero,List.push_toArray,List.append_toArray,List.nil_append,List.cons_append]
 gi_wp2_with (refine ⟨trivial, ?_⟩; gi_at_call 182; refine (callsIn_wide.2 (runes_ret s _)).mono ?_; rintro e w' ⟨rfl,rfl⟩)
 obtain ⟨W0,hW0⟩:∃ W0,W0 = ((((w.alloc (.cells #[.bool false] 4)).alloc (.cells #[.func (.func 180) #[] #[]] 216)).alloc (.cells #[.func (.func 181) #[] #[.pointer (some ⟨w.heap.size + 1,0,none⟩)]] 220)).alloc (.cells #[.string s] 9)):=⟨_,rfl⟩
 rw [<- hW0];have hB1:Below w.heap.size w W0:=by rw [hW0]; exact ((((Below.refl _ w).alloc (Nat.le_refl _) _).alloc (by simp) _).alloc (by simp; omega) _).alloc (by simp; omega) _
 have hS1:PrS w.heap.size false W0 /\ Boxed W0 (w.heap.size + 1 + 1 + 1) 9 (.string s):=by
   rw [hW0];have q0:=Boxed.new w 4 (.bool false);have q1:=Boxed.new (w.alloc (.cells #[.bool false] 4)) 216 (.func (.func 180) #[] #[]);have q2:=Boxed.new ((w.alloc (.cells #[.bool false] 4)).alloc (.cells #[.func (.func 180) #[] #[]] 216)) 220 (.func (.func 181) #[] #[.pointer (some ⟨w.heap.size + 1,0,none⟩)]);have q3:=Boxed.new (((w.alloc (.cells #[.bool false] 4)).alloc (.cells #[.func (.func 180) #[] #[]] 216)).alloc (.cells #[.func (.func 181) #[] #[.pointer (some ⟨w.heap.size + 1,0,none⟩)]] 220)) 9 (.string s);simp only [World.size_alloc] at q1 q2 q3;exact ⟨⟨((q0.alloc _).alloc _).alloc _,(q1.alloc _).alloc _,q2.alloc _⟩,q3⟩
 have hsz1:W0.heap.size = w.heap.size + 1 + 1 + 1 + 1:=by rw [hW0]; simp
 obtain ⟨hS1,hM1⟩:=hS1;clear hW0;refine wpIn_rangeFunc_ownG (n:=9) rfl (by decide) (gf:=186) (lb:=#[.pointer (some ⟨w.heap.size + 1 + 1 + 1,0,none⟩)]) rfl trivial (enters_of Tryz.func186 (by kernel_rfl) rfl)
   (encs:=fun x:Rn => #[.int .i32 ((x.1:Nat):Int)]) (Kp:=fun W W' => KeepsWalks W W') (S:=fun ys => ys = rsP s 0) (Sp:=fun pre => pre <+: rsP s 0) (N:=(rsP s 0).length) (w0:=W0)
   ?seq ?kt ?kb (Below.refl _ _) (fun _ => rfl)
   (fun pre W => (pre.all (fun x => okN x.1) = true /\ PrS w.heap.size false W) /\ Below w.heap.size w W)
   (fun cd pre W => (cd = .ret /\ pre.all (fun x => okN x.1) = false /\ PrS w.heap.size false W) /\ Below w.heap.size w W)
   (OwnFrom.and (Own.from (fun s A B row h hg hr => ⟨h.1,h.2.turn hg hr⟩) _) (ownFrom_below (Nat.le_refl _) (by omega)))
   (fun cd => OwnFrom.and (Own.from (fun s A B row h hg hr => ⟨h.1,h.2.1,h.2.2.turn hg hr⟩) _) (ownFrom_below (Nat.le_refl _) (by omega)))
   ⟨⟨rfl,hS1⟩,hB1⟩
   (fun x => { tmps:=#[.string s,undef,.pointer (some ⟨w.heap.size,0,none⟩),.pointer (some ⟨w.heap.size + 1,0,none⟩),.pointer (some ⟨w.heap.size + 1 + 1,0,none⟩),.int .i32 ((x.1:Nat):Int),.func (.func 181) #[] #[.pointer (some ⟨w.heap.size + 1,0,none⟩)],.string s,.func (.func 186) #[] #[.pointer (some ⟨w.heap.size + 1 + 1 + 1,0,none⟩)],.int .i32 ((x.1:Nat):Int),undef,undef,undef,undef],defers:=[] }) ?assign ?body ?done ?stop
 case kt => exact fun h k => h.trans k
 case kb => exact fun W l o o' hl hl2 _ hw => KeepsWalks.putObj o' hl2 hw
 case seq =>
   intro l J Jx W hW hA _ hY h0;exact runes_in 8 (by decide) l _ s HM.out J Jx hY W hA ((hW.block _ (by omega)).trans hM1) h0
 case assign =>
   intro l x W K hK
   gi_wp2
   exact hK
 case body =>
   rintro l pre x W ⟨⟨hn,hS⟩,hB⟩ hlt;have m0:=hS.ba.cell;obtain ⟨b,hb⟩:∃ b,b = okN x.1:=⟨_,rfl⟩
   have c1:=allowed_calls x.1 x.2 (w.heap.size + 1) b hb W hS.bg;have HC:Hid (CallsIn (Fence.wide.inRound l) (9 - 1 - 1 - 1) Tryz.prog 181 #[.int .i32 ((x.1:Nat):Int),.pointer (some ⟨w.heap.size + 1,0,none⟩)] W fun e w' => e = .returned (.bool b) /\ Below W.heap.size W w'):=lH (CallsIn.inRound l (callsIn_wide.2 c1));have hn2:(pre ++ [x]).all (fun x => okN x.1) = b:=by
     rw [List.all_append,hn,hb];simp
   have HB:=lH hB;have HS:=lH hS;have HN:=lH hn2;clear hn hS hB hn2 hb c1;cases b with
   | true =>
     gi_wp2_with (refine ⟨trivial, ?_⟩; gi_at_call 181; with_reducible refine HC.out.mono ?_; rintro e W2 ⟨rfl,hs⟩)
     exact ⟨below_keeps _ hs,below_walks hs,⟨HN.out,HS.out.below hs⟩,HB.out.trans (hs.mono HB.out.size)⟩
   | false =>
     gi_wp2_with (refine ⟨trivial, ?_⟩; gi_at_call 181; with_reducible refine HC.out.mono ?_; rintro e W2 ⟨rfl,hs⟩; have k0:=(HS.out.below hs).bq.cell; have k1:=(HS.out.below hs).bq.frozen)
     have hP:=HS.out.below hs;refine ⟨(below_keeps _ hs).trans ((KeepsOthers.setCell _ _ _).from _),⟨rfl,HN.out, ?_⟩,(HB.out.trans (hs.mono HB.out.size)).setCell (p:=⟨w.heap.size,0,none⟩) (Nat.le_refl _) _⟩;exact ⟨hP.bq.set _,hP.bg.other (by omega) _,hP.ba.other (by omega) _⟩
 case done =>
   rintro D ys W hD rfl ⟨⟨hn,hS⟩,hB⟩ hK;obtain rfl:q = true:=by rw [HQ.out,hn]
   have m0:=hS.bq.cell;have m1:=hS.bq.frozen;have HB:=lH hB;have HS:=lH hS;have HK:=lH hK;clear hn hS hB hK
   gi_wp2
   have HK2:=lH ((KeepsOthers.setCell W ⟨w.heap.size,0,none⟩ (.bool true)).same D _ HK.out rfl);have hS2:PrS w.heap.size true (W.setCell ⟨w.heap.size,0,none⟩ (.bool true)):=⟨HS.out.bq.set _,HS.out.bg.other (by omega) _,HS.out.ba.other (by omega) _⟩
   have hB2:=HB.out.setCell (p:=⟨w.heap.size,0,none⟩) (Nat.le_refl _) (.bool true);refine ⟨by simp,.inl ⟨_,_,rfl,run_takeDeferred HK2.out, ?_⟩⟩;have m9:=(hS2.turn (grownBy_putObj' _ D (.deferred none)) (fun r e => by cases e; exact ⟨_,HK2.out,rfl⟩)).bq.cell;have hBB:=hB2.trans (belowK_b (w:=w) (Nat.le_refl _) _ D _ (.deferred none) (by omega) HK2.out rfl rfl);generalize (W.setCell ⟨w.heap.size,0,none⟩ (.bool true)).putObj D (.deferred none) = G at m9 hBB ⊢;refine ⟨.bool true, ?_,rfl,hBB⟩;simp [results,Tryz.results172,go_sem,m9]
 case stop =>
   rintro D cd pre W hD hpre ⟨⟨rfl,hany,hS⟩,hB⟩ hK;obtain rfl:q = false:=by
     rw [HQ.out];obtain ⟨t,ht⟩:=hpre;rw [<- ht,List.all_append,hany]; rfl
   have HB:=lH hB;have HS:=lH hS;have HK:=lH hK;clear hany hpre hS hB hK
   gi_wp2
   refine ⟨by simp,.inl ⟨_,_,rfl,run_takeDeferred HK.out, ?_⟩⟩;have m9:=(HS.out.turn (grownBy_putObj' _ D (.deferred none)) (fun r e => by cases e; exact ⟨_,HK.out,rfl⟩)).bq.cell;have hBB:=HB.out.trans (belowK_b (w:=w) (Nat.le_refl _) _ D _ (.deferred none) (by omega) HK.out rfl rfl);refine ⟨.bool false, ?_,rfl,hBB⟩;simp [results,Tryz.results172,go_sem,m9]
theorem printable_mak (s:ByteArray) (hm:s.size <= 1000000) (q:Bool) (hq:q = prnB s.data.toList):Mak 172 #[.string s] (.bool q):=fun w => callsIn_wide.1 (printable_in s hm q hq w)
end Prn
end Go.Proofs.YtpanhhjkecebkaaGreat
