import Derived.RangeFuncNested
import Derived.RangeFuncBound
import Derived.Shelf.RegionOpen
import Derived.OwnWalkIn
import Derived.LoopNIn
import Derived.LoopIn
import Derived.Test.YtpanhhjkecebkaaGreatPt7
set_option maxRecDepth 100000
namespace Go.Proofs.YtpanhhjkecebkaaGreat
open Go.RowKit Go.Shelf
attribute [local go_sem] Oper.semAt_some
namespace Prn
abbrev Rn:={ x:Nat // x <= 2147483647 }
def rsF (c:ByteArray):Nat -> Nat -> List Rn
 | 0,_ => []
 | f + 1,p => if p < c.size then ⟨(Utf8.decode c p).1,decode_le c p⟩ :: rsF c f (p + (Utf8.decode c p).2) else []
theorem width_pos (s:ByteArray) (pos:Nat) (h:pos < s.size):1 <= (Utf8.decode s pos).2:=by
 by_cases ha:(s[pos]'h).toNat < 128
 · rw [decode_ascii s pos h ha];exact Nat.le_refl _
 · exact (decode_high s pos h (by omega)).2
theorem rsF_end (c:ByteArray) (f p:Nat) (h:¬ p < c.size):rsF c f p = []:=by
 cases f with
 | zero => rfl
 | succ f => simp [rsF,h]
theorem rsF_any (c:ByteArray):∀ (f g p:Nat),c.size - p <= f -> c.size - p <= g -> rsF c f p = rsF c g p:=by
 intro f
 induction f with
 | zero =>
   intro g p h _;rw [rsF_end c 0 p (by omega),rsF_end c g p (by omega)]
 | succ f ih =>
   intro g p hf hg
   by_cases hp:p < c.size
   · cases g with
     | zero => omega
     | succ g =>
       have hw:=width_pos c p hp;simp only [rsF,if_pos hp];rw [ih g _ (by omega) (by omega)]
   · rw [rsF_end c _ p hp,rsF_end c _ p hp]
def rsP (c:ByteArray) (p:Nat):List Rn:=rsF c (c.size - p) p
theorem rsP_step (c:ByteArray) (p:Nat) (h:p < c.size):rsP c p = ⟨(Utf8.decode c p).1,decode_le c p⟩ :: rsP c (p + (Utf8.decode c p).2):=by
 have hw:=width_pos c p h;unfold rsP;rw [show c.size - p = (c.size - p - 1) + 1 by omega];simp only [rsF,if_pos h];rw [rsF_any c _ (c.size - (p + (Utf8.decode c p).2)) _ (by omega) (by omega)]
theorem rsP_end (c:ByteArray) (p:Nat) (h:¬ p < c.size):rsP c p = []:=rsF_end c _ p h
def okN (n:Nat):Bool:=allB.any (fun c => c.toNat == n)
theorem allB_low:∀ c ∈ allB,c.toNat < 128:=by decide +kernel
theorem okN_high (n:Nat) (h:128 <= n):okN n = false:=by
 unfold okN;rw [List.any_eq_false];intro c hc h2;have:=allB_low c hc;rw [beq_iff_eq] at h2;omega
theorem okc_okN (c:UInt8):okc c = okN c.toNat:=by
 unfold okc okN
 congr 1
 funext d
 rw [Bool.eq_iff_iff,beq_iff_eq,beq_iff_eq];exact UInt8.toNat_inj.symm
theorem rs_prn (c:ByteArray):∀ (f p:Nat),c.size - p <= f -> (rsP c p).all (fun x => okN x.1) = prnB (c.data.toList.drop p):=by
 intro f
 induction f with
 | zero =>
   intro p h;rw [rsP_end c p (by omega),List.drop_eq_nil_of_le (by have:c.data.toList.length = c.size:=rfl; omega)]; rfl
 | succ f ih =>
   intro p h
   by_cases hp:p < c.size
   · have hd:c.data.toList.drop p = c[p] :: c.data.toList.drop (p + 1):=List.drop_eq_getElem_cons (show p < c.data.toList.length from hp);rw [rsP_step c p hp,hd]
     show (okN (Utf8.decode c p).1 && _) = (okc c[p] && prnB _)
     by_cases ha:c[p].toNat < 128
     · rw [decode_ascii c p hp ha,okc_okN,ih (p + 1) (by omega)]
     · rw [okN_high _ (decode_high c p hp (by omega)).1,okc_okN,okN_high _ (by omega),Bool.false_and,Bool.false_and]
   · rw [rsP_end c p hp,List.drop_eq_nil_of_le (by have:c.data.toList.length = c.size:=rfl; omega)]; rfl
theorem runes_ret (c:ByteArray) (w:World):Calls Tryz.prog 182 #[.string c] w fun e w' => e = .returned (.func (.func 186) #[] #[.pointer (some ⟨w.heap.size,0,none⟩)]) /\ w' = w.alloc (.cells #[.string c] 9):=by
 go_enter Tryz.func182,Tryz.ntmps182
 go_wp2_with fail;go_ret;exact ⟨rfl,rfl⟩
set_option maxHeartbeats 4000000 in
theorem runes_in (n9:Nat) (hn9:1 <= n9) (l Bn:Nat) (c:ByteArray) (_hm:c.size <= 1000000) (J Jx:List Rn -> World -> Prop)
   (hY:∀ pre x W,J pre W -> pre.length < (rsP c 0).length -> YieldAt Fence.wide (n9 - 1) Tryz.prog l #[.int .i32 ((x.1:Nat):Int)] W fun e W' =>
     (e = .returned (.bool true) /\ J (pre ++ [x]) W' /\ KeepsWalks W W') ∨ (e = .returned (.bool false) /\ Jx (pre ++ [x]) W'))
   (W:World) (hA:AbidesFrom W.heap.size J) (hB:Boxed W Bn 9 (.string c)) (h0:J [] W) :
   CallsIn Fence.wide n9 Tryz.prog 186 #[.func (.yield l) #[] #[],.pointer (some ⟨Bn,0,none⟩)] W fun e W' => (∃ v,e = .returned v) /\
     ((∃ ys,ys = rsP c 0 /\ J ys W') ∨ (∃ pre,pre <+: rsP c 0 /\ Jx pre W')):=by
 obtain ⟨T,hT⟩:∃ T,T = rsP c 0:=⟨_,rfl⟩
 rw [<- hT] at hY ⊢;have HT:=lH hT;have HY:=lH hY;have HA:=lH hA;have hcB:=hB.cell;clear hT hY hA hB;refine callsIn_of_wp Tryz.func186 rfl trivial ?_ rfl;simp only [Tryz.ntmps186,List.size_toArray,List.length_cons,List.length_nil,Nat.reduceAdd,Nat.reduceSub,Array.replicate_succ,Array.replicate_zero,List.push_toArray,List.append_toArray,List.nil_append,List.cons_append];have hk0:=World.iter_heap W c 0;have hJ0:J [] (W.iter c 0):=HA.out [] W _ none h0 (World.grownBy_alloc W _ none) (fun r e => by cases e);have HK0:=lH hk0;have HJ0:=lH hJ0;clear hk0 hJ0 h0
 gi_wp2
 gi_loopw [4] (fun _ wr => ∃ (p:Nat) (pre:List Rn),Hid (wr.heap[W.heap.size]? = some (.stringIter c p)) /\ Hid (T = pre ++ rsP c p) /\ Hid (J pre wr)) (fun _ wr => c.size - wr.iterPos W.heap.size)
 case atStart => exact ⟨0,[],HK0,HT,HJ0⟩
 case round =>
   clear HK0 HJ0 HT hcB;obtain ⟨p,pre,HK,HT,HJ⟩:=hrel;have hmu:wr.iterPos W.heap.size = p:=by simp [World.iterPos,HK.out]
   by_cases hp:p < c.size
   · have hst:=HT.out;rw [rsP_step c p hp] at hst;have hw1:=width_pos c p hp;have hnx:∀ ty,(Instr.next (.pointer (some ⟨W.heap.size,0,none⟩)) true ty).run Tryz.prog wr = _:=fun ty => Lib.run_next_any_at wr W.heap.size c p ty HK.out hp
     obtain ⟨x,hx⟩:∃ x:Rn,x = ⟨(Utf8.decode c p).1,decode_le c p⟩:=⟨_,rfl⟩
     obtain ⟨n,hn⟩:∃ n,n = (Utf8.decode c p).2:=⟨_,rfl⟩
     rw [<- hx,<- hn] at hst;have hx1:(Utf8.decode c p).1 = x.1:=by rw [hx]
     rw [hx1,<- hn] at hnx;rw [<- hn] at hw1;have hg:wr.grownBy (wr.iterAt W.heap.size c (p + n)) (some W.heap.size):=grownBy_putObj' wr W.heap.size (.stringIter c (p + n));have hJ1:J pre (wr.iterAt W.heap.size c (p + n)):=HA.out pre wr _ _ HJ.out hg (fun r e => by cases e; exact ⟨Nat.le_refl _,_,HK.out,rfl⟩);have hk1:=Lib.iterAt_heap wr W.heap.size c p (p + n) HK.out;generalize wr.iterAt W.heap.size c (p + n) = W1 at hnx hJ1 hk1;clear hx hn hx1 hg;obtain ⟨fn,tmps,assign,body,hy,hR⟩:=HY.out pre x W1 hJ1 (by rw [hst]; simp);have hst2:T = (pre ++ [x]) ++ rsP c (p + n):=by rw [hst,List.append_assoc]; rfl
     have HST:=lH hst2;have HK1:=lH hk1;clear hst hst2 hk1 hJ1
     gi_wp2
     refine hR.mono ?_;rintro e W3 (⟨rfl,hJ3,hk3⟩ | ⟨rfl,hJx3⟩)
     · have hk4:=hk3.same W.heap.size _ HK1.out rfl;have hmu2:W3.iterPos W.heap.size = p + n:=by simp [World.iterPos,hk4]
       have HK4:=lH hk4;have HJ3:=lH hJ3;clear hJ3 hk3 hk4
       gi_wp2
       go_roundw
       case rel => exact ⟨p + n,pre ++ [x],HK4,HST,HJ3⟩
       case measure => rw [hmu,hmu2]; omega
     · have HJx3:=lH hJx3;clear hJx3
       gi_wp2
       refine bodyPost_ret (results_none rfl _ _ _) rfl ?_;exact ⟨⟨_,rfl⟩,.inr ⟨_,⟨_,HST.out.symm⟩,HJx3.out⟩⟩
   · have hst:=HT.out;rw [rsP_end c p hp,List.append_nil] at hst;have hnx:∀ ty,(Instr.next (.pointer (some ⟨W.heap.size,0,none⟩)) true ty).run Tryz.prog wr = _:=fun ty => Lib.run_next_end_at wr W.heap.size c p ty HK.out hp
     have HST:=lH hst;clear hst
     gi_wp2
     go_end0
     exact ⟨⟨_,rfl⟩,.inl ⟨pre,HST.out.symm,HJ.out⟩⟩
end Prn
end Go.Proofs.YtpanhhjkecebkaaGreat
namespace Go.Proofs.YtpanhhjkecebkaaGreat
open Go.RowKit Go.Shelf
attribute [local go_sem] Oper.semAt_some
theorem Boxed_own {W W':World} {row:Option Nat} {B:Nat} {t:TypeId} {v:Value} (h:Boxed W B t v) (hg:W.grownBy W' row) (hr:∀ r,row = some r -> ∃ o:Obj,W.heap[r]? = some o /\ o.isCells = false):Boxed W' B t v :=
 h.kept hg (fun e => by obtain ⟨o,ho,hc⟩:=hr B e.symm; rw [show W.heap[B]? = _ from h] at ho; cases ho; cases hc)
theorem Boxed_below {w w':World} {B:Nat} {t:TypeId} {v:Value} (h:Boxed w B t v) (hs:Below w.heap.size w w'):Boxed w' B t v:=(hs.block B h.lt).trans h
namespace Prn
def sMarks:ByteArray:=⟨#[32,39,40,41,43,44,45,46,47,58,61,63]⟩
def inR (a b n:Nat):Bool:=decide (a <= n) && decide (n <= b)
theorem marks_all:(List.range 128).all (fun n => ((rsP sMarks 0).any (fun x => x.1 == n) || (inR 65 90 n || (inR 97 122 n || inR 48 57 n))) == okN n) = true:=by decide +kernel
theorem marks_low:(rsP sMarks 0).all (fun x => decide (x.1 < 128)) = true:=by decide +kernel
theorem okN_parts (n:Nat):okN n = ((rsP sMarks 0).any (fun x => x.1 == n) || (inR 65 90 n || (inR 97 122 n || inR 48 57 n))):=by
 by_cases h:n < 128
 · exact (eq_of_beq (List.all_eq_true.1 marks_all n (List.mem_range.2 h))).symm
 · rw [okN_high n (by omega)];have h1:(rsP sMarks 0).any (fun x => x.1 == n) = false:=by
     rw [List.any_eq_false];intro x hx h2;have:=List.all_eq_true.1 marks_low x hx;rw [beq_iff_eq] at h2;rw [decide_eq_true_eq] at this;omega
   unfold inR;rw [h1,decide_eq_false (show ¬ n <= 90 by omega),decide_eq_false (show ¬ n <= 122 by omega),decide_eq_false (show ¬ n <= 57 by omega)];simp
theorem btw_ret (n a b:Nat) (q:Bool) (hq:q = inR a b n):Ret 180 #[.int .i32 (n:Int),.int .i32 (a:Int),.int .i32 (b:Int)] (.bool q):=by
 intro w;unfold inR at hq
 by_cases h1:a <= n
 · have t1:decide (a <= n) = true:=decide_eq_true h1;rw [decide_eq_true h1,Bool.true_and] at hq
   by_cases h2:n <= b
   · have t2:decide (n <= b) = true:=decide_eq_true h2;rw [decide_eq_true h2] at hq;subst hq;clear h1 h2
     go_enter Tryz.func180,Tryz.ntmps180
     go_wp2_with fail;go_ret;exact ⟨rfl,rfl⟩
   · have t2:decide (n <= b) = false:=decide_eq_false h2;rw [decide_eq_false h2] at hq;subst hq;clear h1 h2
     go_enter Tryz.func180,Tryz.ntmps180
     go_wp2_with fail;go_ret;exact ⟨rfl,rfl⟩
 · have t1:decide (a <= n) = false:=decide_eq_false h1;rw [decide_eq_false h1,Bool.false_and] at hq;subst hq;clear h1
   go_enter Tryz.func180,Tryz.ntmps180
   go_wp2_with fail;go_ret;exact ⟨rfl,rfl⟩
structure AllS (w:World) (r g:Nat) (q:Bool) (W:World):Prop where
 bg:Boxed W g 216 (.func (.func 180) #[] #[])
 br:Boxed W w.heap.size 21 (.int .i32 (r:Int))
 bq:Boxed W (w.heap.size + 1) 4 (.bool q)
theorem AllS.turn {w:World} {r g:Nat} {q:Bool} {W W':World} {row:Option Nat} (h:AllS w r g q W) (hg:W.grownBy W' row) (hr:∀ r,row = some r -> ∃ o:Obj,W.heap[r]? = some o /\ o.isCells = false):AllS w r g q W' :=
 ⟨Boxed_own h.bg hg hr,Boxed_own h.br hg hr,Boxed_own h.bq hg hr⟩
set_option maxHeartbeats 4000000 in
theorem allowed_in (r:Nat) (_hr9:r <= 2147483647) (g:Nat) (q:Bool) (hq:q = okN r) (w:World) (hg0:Boxed w g 216 (.func (.func 180) #[] #[])) :
   CallsIn Fence.wide 9 Tryz.prog 181 #[.int .i32 (r:Int),.pointer (some ⟨g,0,none⟩)] w fun e w' => e = .returned (.bool q) /\ Below w.heap.size w w':=by
 rw [okN_parts] at hq;have HQ:=lH hq;clear hq;refine callsIn_of_wp_marks Tryz.func181 rfl trivial ?_ rfl;simp only [Tryz.ntmps181,List.size_toArray,List.length_cons,List.length_nil,Nat.reduceAdd,Nat.reduceSub,Array.replicate_succ,Array.replicate_zero,List.push_toArray,List.append_toArray,List.nil_append,List.cons_append];obtain ⟨W0,hW0⟩:∃ W0,W0 = ((w.alloc (.cells #[.int .i32 (r:Int)] 21)).alloc (.cells #[.bool false] 4)):=⟨_,rfl⟩
 have hB0:Below w.heap.size w W0:=by rw [hW0]; exact ((Below.refl _ w).alloc (Nat.le_refl _) _).alloc (by simp) _
 have hsz:W0.heap.size = w.heap.size + 1 + 1:=by rw [hW0]; simp
 have hS0:AllS w r g false W0:=by
   have q0:=Boxed.new w 21 (.int .i32 (r:Int));have q1:=Boxed.new (w.alloc (.cells #[.int .i32 (r:Int)] 21)) 4 (.bool false);simp only [World.size_alloc] at q1;rw [hW0];exact ⟨(hg0.alloc _).alloc _,q0.alloc _,q1⟩
 have hg9:=hg0.lt;have HG:=lH hg9;clear hg0 hg9
 gi_wp2_with (refine ⟨trivial, ?_⟩; gi_at_call 182; refine (callsIn_wide.2 (runes_ret sMarks _)).mono ?_; rintro e w' ⟨rfl,rfl⟩)
 rw [<- hW0];obtain ⟨W1,hW1⟩:∃ W1,W1 = W0.alloc (.cells #[.string sMarks] 9):=⟨_,rfl⟩
 have hB1:Below w.heap.size w W1:=by rw [hW1]; exact hB0.alloc (by omega) _
 have hS1:AllS w r g false W1:=by rw [hW1]; exact ⟨hS0.bg.alloc _,hS0.br.alloc _,hS0.bq.alloc _⟩
 have hM1:Boxed W1 (w.heap.size + 1 + 1) 9 (.string sMarks):=by
   have h:=Boxed.new W0 9 (.string sMarks);rw [hsz] at h;rw [hW1]; exact h
 have hsz1:W1.heap.size = w.heap.size + 1 + 1 + 1:=by rw [hW1]; simp [hsz]
 rw [<- hW1];clear hW1 hW0 hB0 hS0 hsz;have hz:=HG.out;refine wpIn_rangeFunc_ownG (n:=9) rfl (by decide) (gf:=186) (lb:=#[.pointer (some ⟨w.heap.size + 1 + 1,0,none⟩)]) rfl trivial (enters_of Tryz.func186 (by kernel_rfl) rfl)
   (encs:=fun x:Rn => #[.int .i32 ((x.1:Nat):Int)]) (Kp:=fun W W' => KeepsWalks W W') (S:=fun ys => ys = rsP sMarks 0) (Sp:=fun pre => pre <+: rsP sMarks 0) (N:=(rsP sMarks 0).length) (w0:=W1)
   ?seq ?kt ?kb (Below.refl _ _) (fun _ => rfl)
   (fun pre W => (pre.any (fun x => x.1 == r) = false /\ AllS w r g false W) /\ Below w.heap.size w W)
   (fun cd pre W => (cd = .ret /\ pre.any (fun x => x.1 == r) = true /\ AllS w r g true W) /\ Below w.heap.size w W)
   (OwnFrom.and (Own.from (fun s A B row h hg hr => ⟨h.1,h.2.turn hg hr⟩) _) (ownFrom_below (Nat.le_refl _) (by omega)))
   (fun cd => OwnFrom.and (Own.from (fun s A B row h hg hr => ⟨h.1,h.2.1,h.2.2.turn hg hr⟩) _) (ownFrom_below (Nat.le_refl _) (by omega)))
   ⟨⟨rfl,hS1⟩,hB1⟩
   (fun x => { tmps:=#[.int .i32 (r:Int),.pointer (some ⟨g,0,none⟩),.pointer (some ⟨w.heap.size,0,none⟩),.pointer (some ⟨w.heap.size + 1,0,none⟩),.int .i32 ((x.1:Nat):Int),.func (.func 186) #[] #[.pointer (some ⟨w.heap.size + 1 + 1,0,none⟩)],.int .i32 ((x.1:Nat):Int),undef,undef,undef,undef,undef,undef,undef,undef,undef,undef,undef,undef,undef,undef,undef,undef],defers:=[] }) ?assign ?body ?done ?stop
 case kt => exact fun h k => h.trans k
 case kb => exact fun W l o o' hl hl2 _ hw => KeepsWalks.putObj o' hl2 hw
 case seq =>
   intro l J Jx W hW hA _ hY h0;exact runes_in 8 (by decide) l _ sMarks (by decide) J Jx hY W hA ((hW.block _ (by omega)).trans hM1) h0
 case assign =>
   intro l x W K hK
   gi_wp2
   exact hK
 case body =>
   rintro l pre x W ⟨⟨hn,hS⟩,hB⟩ hlt;have m0:=hS.br.cell;have m1:=hS.bq.cell;have m2:=hS.bq.frozen;have hz2:=hB.size
   by_cases hx:x.1 = r
   · have t1:((r:Int) == (x.1:Int)) = true:=by rw [beq_iff_eq]; omega
     have hn2:(pre ++ [x]).any (fun x => x.1 == r) = true:=by
       rw [List.any_append];simp [hx]
     have HB:=lH hB;have HS:=lH hS;have HN:=lH hn2;clear hn hS hB hn2 hx
     gi_wp2
     refine ⟨(KeepsOthers.setCell _ _ _).from _,⟨rfl,HN.out, ?_⟩,HB.out.setCell (p:=⟨w.heap.size + 1,0,none⟩) (by simp) _⟩;exact ⟨HS.out.bg.other (by omega) _,HS.out.br.other (by omega) _,HS.out.bq.set _⟩
   · have t1:((r:Int) == (x.1:Int)) = false:=by rw [beq_eq_false_iff_ne]; omega
     have hn2:(pre ++ [x]).any (fun x => x.1 == r) = false:=by
       rw [List.any_append,hn];simp [hx]
     have HB:=lH hB;have HS:=lH hS;have HN:=lH hn2;clear hn hS hB hn2 hx
     gi_wp2
     exact ⟨(KeepsOthers.refl _).from _,KeepsWalks.refl _,⟨HN.out,HS.out⟩,HB.out⟩
 case done =>
   rintro D ys W hD rfl ⟨⟨hn,hS⟩,hB⟩ hK;have hq:=HQ.out;rw [hn,Bool.false_or] at hq;have m0:=hS.br.cell;have m1:=hS.bq.cell;have m2:=hS.bq.frozen;have m3:=hS.bg.cell;obtain ⟨b1,hb1⟩:∃ b,b = inR 65 90 r:=⟨_,rfl⟩
   obtain ⟨b2,hb2⟩:∃ b,b = inR 97 122 r:=⟨_,rfl⟩
   obtain ⟨b3,hb3⟩:∃ b,b = inR 48 57 r:=⟨_,rfl⟩
   have c1:Ret 180 #[.int .i32 (r:Int),.int .i32 65,.int .i32 90] (.bool b1):=btw_ret r 65 90 b1 hb1;have c2:Ret 180 #[.int .i32 (r:Int),.int .i32 97,.int .i32 122] (.bool b2):=btw_ret r 97 122 b2 hb2;have c3:Ret 180 #[.int .i32 (r:Int),.int .i32 48,.int .i32 57] (.bool b3):=btw_ret r 48 57 b3 hb3;rw [<- hb1,<- hb2,<- hb3] at hq;have HC1:Hid (∀ W,CallsIn Fence.wide (9 - 1) Tryz.prog 180 #[.int .i32 (r:Int),.int .i32 65,.int .i32 90] W fun e w' => e = .returned (.bool b1) /\ W = w'):=lH (fun W => callsIn_wide.2 (c1 W));have HC2:Hid (∀ W,CallsIn Fence.wide (9 - 1) Tryz.prog 180 #[.int .i32 (r:Int),.int .i32 97,.int .i32 122] W fun e w' => e = .returned (.bool b2) /\ W = w'):=lH (fun W => callsIn_wide.2 (c2 W));have HC3:Hid (∀ W,CallsIn Fence.wide (9 - 1) Tryz.prog 180 #[.int .i32 (r:Int),.int .i32 48,.int .i32 57] W fun e w' => e = .returned (.bool b3) /\ W = w'):=lH (fun W => callsIn_wide.2 (c3 W));have HB:=lH hB;have HS:=lH hS;have HK:=lH hK;have HQ2:=lH hq;clear hn hS hB hb1 hb2 hb3 c1 c2 c3 hK hq HQ;cases b1 with
   | true =>
     obtain rfl:q = true:=by rw [HQ2.out]; rfl
     gi_wp2_with (refine ⟨trivial, ?_⟩; gi_at_call 180; with_reducible refine (HC1.out _).mono ?_; rintro e w' ⟨rfl,rfl⟩)
     refine ⟨fun _ h => (by cases h), ?_⟩
     gi_wp2_with fail
     refine ⟨fun _ h => (by cases h), ?_⟩
     gi_wp2_with fail
     have HK2:=lH ((KeepsOthers.setCell W ⟨w.heap.size + 1,0,none⟩ (.bool true)).same D _ HK.out rfl);have hS2:AllS w r g true (W.setCell ⟨w.heap.size + 1,0,none⟩ (.bool true)):=⟨HS.out.bg.other (by omega) _,HS.out.br.other (by omega) _,HS.out.bq.set _⟩
     have hB2:=HB.out.setCell (p:=⟨w.heap.size + 1,0,none⟩) (by simp) (.bool true);refine ⟨by simp,.inl ⟨_,_,rfl,run_takeDeferred HK2.out, ?_⟩⟩;have m9:=(hS2.turn (grownBy_putObj' _ D (.deferred none)) (fun r e => by cases e; exact ⟨_,HK2.out,rfl⟩)).bq.cell;have hBB:=hB2.trans (belowK_b (w:=w) (Nat.le_refl _) _ D _ (.deferred none) (by omega) HK2.out rfl rfl);generalize (W.setCell ⟨w.heap.size + 1,0,none⟩ (.bool true)).putObj D (.deferred none) = G at m9 hBB ⊢;refine ⟨.bool true, ?_,rfl,hBB⟩;simp [results,Tryz.results181,go_sem,m9]
   | false =>
     cases b2 with
     | true =>
       obtain rfl:q = true:=by rw [HQ2.out]; rfl
       gi_wp2_with (refine ⟨trivial, ?_⟩; gi_at_call 180; with_reducible refine (HC1.out _).mono ?_; rintro e w' ⟨rfl,rfl⟩)
       gi_wp2_with (refine ⟨trivial, ?_⟩; gi_at_call 180; with_reducible refine (HC2.out _).mono ?_; rintro e w' ⟨rfl,rfl⟩)
       refine ⟨fun _ h => (by cases h), ?_⟩
       gi_wp2_with fail
       have HK2:=lH ((KeepsOthers.setCell W ⟨w.heap.size + 1,0,none⟩ (.bool true)).same D _ HK.out rfl);have hS2:AllS w r g true (W.setCell ⟨w.heap.size + 1,0,none⟩ (.bool true)):=⟨HS.out.bg.other (by omega) _,HS.out.br.other (by omega) _,HS.out.bq.set _⟩
       have hB2:=HB.out.setCell (p:=⟨w.heap.size + 1,0,none⟩) (by simp) (.bool true);refine ⟨by simp,.inl ⟨_,_,rfl,run_takeDeferred HK2.out, ?_⟩⟩;have m9:=(hS2.turn (grownBy_putObj' _ D (.deferred none)) (fun r e => by cases e; exact ⟨_,HK2.out,rfl⟩)).bq.cell;have hBB:=hB2.trans (belowK_b (w:=w) (Nat.le_refl _) _ D _ (.deferred none) (by omega) HK2.out rfl rfl);generalize (W.setCell ⟨w.heap.size + 1,0,none⟩ (.bool true)).putObj D (.deferred none) = G at m9 hBB ⊢;refine ⟨.bool true, ?_,rfl,hBB⟩;simp [results,Tryz.results181,go_sem,m9]
     | false =>
       rw [Bool.false_or,Bool.false_or] at HQ2;obtain rfl:=HQ2.out
       gi_wp2_with (refine ⟨trivial, ?_⟩; gi_at_call 180; with_reducible refine (HC1.out _).mono ?_; rintro e w' ⟨rfl,rfl⟩)
       gi_wp2_with (refine ⟨trivial, ?_⟩; gi_at_call 180; with_reducible refine (HC2.out _).mono ?_; rintro e w' ⟨rfl,rfl⟩)
       gi_wp2_with (refine ⟨trivial, ?_⟩; gi_at_call 180; with_reducible refine (HC3.out _).mono ?_; rintro e w' ⟨rfl,rfl⟩)
       have HK2:=lH ((KeepsOthers.setCell W ⟨w.heap.size + 1,0,none⟩ (.bool q)).same D _ HK.out rfl);have hS2:AllS w r g q (W.setCell ⟨w.heap.size + 1,0,none⟩ (.bool q)):=⟨HS.out.bg.other (by omega) _,HS.out.br.other (by omega) _,HS.out.bq.set _⟩
       have hB2:=HB.out.setCell (p:=⟨w.heap.size + 1,0,none⟩) (by simp) (.bool q);refine ⟨by simp,.inl ⟨_,_,rfl,run_takeDeferred HK2.out, ?_⟩⟩;have m9:=(hS2.turn (grownBy_putObj' _ D (.deferred none)) (fun r e => by cases e; exact ⟨_,HK2.out,rfl⟩)).bq.cell;have hBB:=hB2.trans (belowK_b (w:=w) (Nat.le_refl _) _ D _ (.deferred none) (by omega) HK2.out rfl rfl);generalize (W.setCell ⟨w.heap.size + 1,0,none⟩ (.bool q)).putObj D (.deferred none) = G at m9 hBB ⊢;refine ⟨.bool q, ?_,rfl,hBB⟩;simp [results,Tryz.results181,go_sem,m9]
 case stop =>
   rintro D cd pre W hD hpre ⟨⟨rfl,hany,hS⟩,hB⟩ hK;obtain rfl:q = true:=by
     rw [HQ.out];obtain ⟨t,ht⟩:=hpre;rw [<- ht,List.any_append,hany]; rfl
   have HB:=lH hB;have HS:=lH hS;have HK:=lH hK;clear hany hpre hS hB hK
   gi_wp2
   refine ⟨by simp,.inl ⟨_,_,rfl,run_takeDeferred HK.out, ?_⟩⟩;have m9:=(HS.out.turn (grownBy_putObj' _ D (.deferred none)) (fun r e => by cases e; exact ⟨_,HK.out,rfl⟩)).bq.cell;have hBB:=HB.out.trans (belowK_b (w:=w) (Nat.le_refl _) _ D _ (.deferred none) (by omega) HK.out rfl rfl);refine ⟨.bool true, ?_,rfl,hBB⟩;simp [results,Tryz.results181,go_sem,m9]
theorem allowed_calls (r:Nat) (hr9:r <= 2147483647) (g:Nat) (q:Bool) (hq:q = okN r) (w:World) (hg0:Boxed w g 216 (.func (.func 180) #[] #[])) :
   Calls Tryz.prog 181 #[.int .i32 (r:Int),.pointer (some ⟨g,0,none⟩)] w fun e w' => e = .returned (.bool q) /\ Below w.heap.size w w':=callsIn_wide.1 (allowed_in r hr9 g q hq w hg0)
end Prn
end Go.Proofs.YtpanhhjkecebkaaGreat
