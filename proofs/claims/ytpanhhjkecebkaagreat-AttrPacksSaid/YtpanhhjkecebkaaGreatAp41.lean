import Derived.Test.YtpanhhjkecebkaaGreatAp40
set_option maxRecDepth 100000
namespace Go.Proofs.YtpanhhjkecebkaaGreat
open Go.RowKit
namespace Tlv
open Span Flt Rw
def pcsF (s:ByteArray):Nat -> Nat -> Except (Nat × Nat) (List ByteArray)
 | 0,p => .error (5,p)
 | f + 1,p => if s.size <= p then .ok [] else
   match Head.dec (s.extract p s.size).data.toList with
   | (h,k,x) => if x ≠ 0 then .error (x,p) else if s.size - p < k + h.n then .error (5,p) else
     match pcsF s f (p + (k + h.n)) with
     | .error y => .error y
     | .ok l => .ok (s.extract p (p + (k + h.n)) :: l)
def prepE (L:List ByteArray):Except (Nat × Nat) (List ByteArray) -> Except (Nat × Nat) (List ByteArray)
 | .error y => .error y
 | .ok l => .ok (L ++ l)
def pcsV (s:ByteArray):Nat × Nat × List ByteArray :=
 if 65535 < s.size then (4,0,[]) else
 match pcsF s (s.size + 1) 0 with
 | .error (c,p) => (c,p,[])
 | .ok l => (0,0,l)
theorem pcs_end (s:ByteArray) (f p:Nat) (L:List ByteArray) (h:s.size <= p):prepE L (pcsF s (f + 1) p) = .ok L:=by
 unfold pcsF
 rw [if_pos h]
 show Except.ok (L ++ []) = _
 rw [List.append_nil]
theorem pcs_bad (s:ByteArray) (f p:Nat) (L:List ByteArray) (h:¬ s.size <= p) (hh:Head.Hd) (k x:Nat) (hq:Head.dec (s.extract p s.size).data.toList = (hh,k,x)) (hx:x ≠ 0):prepE L (pcsF s (f + 1) p) = .error (x,p):=by
 unfold pcsF
 rw [if_neg h,hq]
 dsimp only
 rw [if_pos hx]
 rfl
theorem pcs_far (s:ByteArray) (f p:Nat) (L:List ByteArray) (h:¬ s.size <= p) (hh:Head.Hd) (k:Nat) (hq:Head.dec (s.extract p s.size).data.toList = (hh,k,0)) (hx:s.size - p < k + hh.n):prepE L (pcsF s (f + 1) p) = .error (5,p):=by
 unfold pcsF
 rw [if_neg h,hq]
 dsimp only
 rw [if_neg (by decide),if_pos hx]
 rfl
theorem pcs_one (s:ByteArray) (f p:Nat) (L:List ByteArray) (h:¬ s.size <= p) (hh:Head.Hd) (k:Nat) (hq:Head.dec (s.extract p s.size).data.toList = (hh,k,0)) (hx:¬ s.size - p < k + hh.n):prepE L (pcsF s (f + 1) p) = prepE (L ++ [s.extract p (p + (k + hh.n))]) (pcsF s f (p + (k + hh.n))):=by
 conv => lhs; unfold pcsF
 rw [if_neg h,hq]
 dsimp only
 rw [if_neg (by decide),if_neg hx]
 cases pcsF s f (p + (k + hh.n)) with
 | error y => rfl
 | ok l =>
   show Except.ok (L ++ (_ :: l)) = Except.ok ((L ++ [_]) ++ l)
   rw [List.append_assoc]
   rfl
def PPost (w:World) (T:Except (Nat × Nat) (List ByteArray)) (e:Ending) (w':World):Prop :=
 match T with
 | .error (c,p) => e = .returned (.tuple #[.slice none 0 0,.agg (F2 (c:Int) (p:Int))]) /\ Since w w'
 | .ok l => ∃ v,e = .returned (.tuple #[v,.agg (F2 0 0)]) /\ StrsS w' v l /\ Since w w'
def PcR (f:Nat) (s:ByteArray) (C P:Int) (L:List ByteArray):Prop:=∀ w,Calls Tryz.prog f #[.string s] w fun e w' => ∃ v,e = .returned (.tuple #[v,.agg (F2 C P)]) /\ StrsS w' v L /\ Since w w'
theorem strs_own {w:World} {base:Nat} {v:Value} {L:List ByteArray} (h:w.ownsRow base 9 1 v L.length (L.map Value.string)):StrsS w v L:=SlR.own h
set_option maxHeartbeats 8000000 in
theorem pieces_t (s:ByteArray) (hs:s.size <= 65535) (T:Except (Nat × Nat) (List ByteArray)) (hT:pcsF s (s.size + 1) 0 = T) (w:World):Calls Tryz.prog 43 #[.string s] w (PPost w T):=by
 have h1:decide ((65535:Int) < (s.size:Int)) = false:=decide_eq_false (by omega)
 have h2:decide (65535 < s.size) = false:=decide_eq_false (by omega)
 obtain ⟨z,hz⟩:∃ z:Nat,z = 0:=⟨_,rfl⟩
 have c0:Ret 82 #[.int .i64 0,.int .i64 (s.size:Int)] (.complex .f64 (fl (z:Int)) (fl (s.size:Int))):=by rw [hz]; exact of_yes 0 s.size ⟨by omega,by omega⟩
 have HT:Hid (prepE [] (pcsF s (s.size + 1) z) = T):=lH (by rw [hz,hT]; cases T <;> rfl)
 have Hz:=lH hz
 have hr0:Hid (HR w w.heap.size (F2 0 0) 65 (w.alloc (.cells (F2 0 0) 65))):=lH ⟨heap_alloc_new w _⟩
 have HR0:Hid ((w.alloc (.cells #[.int .i64 0,.int .i64 0] 65)).ownsRow (w.alloc (.cells #[.int .i64 0,.int .i64 0] 65)).heap.size 9 1 (.slice none 0 0) ([]:List ByteArray).length (([]:List ByteArray).map Value.string)):=lH (World.ownsRow_nil _ _ _ _)
 have HS0:Hid (Since (w.alloc (.cells #[.int .i64 0,.int .i64 0] 65)) (w.alloc (.cells #[.int .i64 0,.int .i64 0] 65))):=lH (Since.refl _)
 clear hz hT
 unfold F2 at hr0
 go_enter Tryz.func43,Tryz.ntmps43
 go_wp2_with fail
 refine c0.calls ?_
 go_wp2_with fail
 go_loopw [4,5] (fun lv rv wr => ∃ (p f:Nat) (L:List ByteArray) (A:Option Addr) (cc:Nat),p <= s.size /\ lv = .slice A L.length cc /\ rv = .complex .f64 (fl (p:Int)) (fl (s.size:Int)) /\ Hid (L.length <= p) /\ Hid (s.size - p < f) /\ Hid (prepE L (pcsF s f p) = T) /\ Hid (wr.ownsRow (w.alloc (.cells #[.int .i64 0,.int .i64 0] 65)).heap.size 9 1 lv L.length (L.map Value.string)) /\ Hid (Since (w.alloc (.cells #[.int .i64 0,.int .i64 0] 65)) wr)) (fun lv _ _ => s.size + 1 - lenOf lv)
 case atStart => exact ⟨z,s.size + 1,[],none,0,by rw [Hz.out]; exact Nat.zero_le _,rfl,rfl,lH (Nat.zero_le _),lH (by omega),HT,HR0,HS0⟩
 case round =>
   clear HT Hz HR0 HS0 hr0
   obtain ⟨p,f,L,A,cc,hp,rfl,rfl,HLp,HF,HT,HRo,HS⟩:=hrel
   have c1:=from_ret p s.size ⟨hp,by omega⟩
   have c2:=to_ret p s.size ⟨hp,by omega⟩
   obtain ⟨f,rfl⟩:∃ f',f = f' + 1:=⟨f - 1,by have:=HF.out; omega⟩
   by_cases hlt:p < s.size
   · have t1:decide ((p:Int) < (s.size:Int)) = true:=decide_eq_true (by omega)
     have t2:decide (p < s.size) = true:=decide_eq_true hlt
     have hpn:¬ s.size <= p:=by omega
     have c3:=meas_mak s p s.size hp (Nat.le_refl _) hs
     obtain ⟨hh,k,x,hq⟩:∃ hh k x,Head.dec (s.extract p s.size).data.toList = (hh,k,x):=⟨_,_,_,rfl⟩
     unfold measV at c3
     rw [hq] at c3
     dsimp only at c3
     by_cases hx:x ≠ 0
     · rw [if_pos hx] at c3
       obtain ⟨X,hX⟩:∃ X:Int,X = (x:Int):=⟨_,rfl⟩
       rw [<- hX] at c3
       have hX0:(X != 0) = true:=by rw [bne_iff_ne]; omega
       have hW:∀ w',Since w w' -> PPost w T (.returned (.tuple #[.slice none 0 0,.agg (F2 X (p:Int))])) w':=by
         intro w' h
         rw [<- HT.out,pcs_bad s f p L hpn hh k x hq hx,hX]
         exact ⟨rfl,h⟩
       have HW:=lH hW
       clear hW hX hx hq HT HF HLp HRo
       go_wp2_with fail
       refine c1.calls ?_
       go_wp2_with fail
       refine c2.calls ?_
       go_wp2_with fail
       refine c3.calls0 ?_
       intro w1 h1
       have HS1:=lH ((HS.out.step h1).alloc (.cells Z4 115))
       clear h1
       have hr0:=lH (HR.step (w:=w) ⟨heap_alloc_new w (.cells #[.int .i64 0,.int .i64 0] 65)⟩ HS1.out)
       have HSw:=lH ((Since.alloc (Since.refl w) _).step HS1.out)
       unfold Z4 at hr0 HSw ⊢
       go_wp2_with fail
       refine c1.calls ?_
       go_wp2_with (refine wpList_store_row rfl 65 _ _ rfl w.heap.size (F2 X (p:Int)) (by rfl) (by rfl) _ _ hr0.out.row (f2_info X (p:Int)) rfl (f2_one X (p:Int)) ?_)
       exact bodyPost_ret (v:=.tuple #[.slice none 0 0,.agg (F2 X (p:Int))]) (results_t_cell Tryz.results43 _ _ _ _ _ _ _ _ rfl rfl (setRow_heap _ _ _ _ _ _ hr0.out.row) Tryz.underlying65 rfl (f2_info X (p:Int))) rfl (HW.out _ (below_setRow HSw.out (Nat.le_refl _) _))
     rw [if_neg hx] at c3
     obtain rfl:x = 0:=by omega
     by_cases hf:s.size - p < k + hh.n
     · rw [if_pos hf] at c3
       obtain ⟨X,hX⟩:∃ X:Int,X = 5:=⟨_,rfl⟩
       rw [<- hX] at c3
       have hX0:(X != 0) = true:=by rw [bne_iff_ne]; omega
       have hW:∀ w',Since w w' -> PPost w T (.returned (.tuple #[.slice none 0 0,.agg (F2 X (p:Int))])) w':=by
         intro w' h
         rw [<- HT.out,pcs_far s f p L hpn hh k hq hf,hX]
         exact ⟨rfl,h⟩
       have HW:=lH hW
       clear hW hX hx hq HT HF HLp HRo hf
       go_wp2_with fail
       refine c1.calls ?_
       go_wp2_with fail
       refine c2.calls ?_
       go_wp2_with fail
       refine c3.calls0 ?_
       intro w1 h1
       have HS1:=lH ((HS.out.step h1).alloc (.cells Z4 115))
       clear h1
       have hr0:=lH (HR.step (w:=w) ⟨heap_alloc_new w (.cells #[.int .i64 0,.int .i64 0] 65)⟩ HS1.out)
       have HSw:=lH ((Since.alloc (Since.refl w) _).step HS1.out)
       unfold Z4 at hr0 HSw ⊢
       go_wp2_with fail
       refine c1.calls ?_
       go_wp2_with (refine wpList_store_row rfl 65 _ _ rfl w.heap.size (F2 X (p:Int)) (by rfl) (by rfl) _ _ hr0.out.row (f2_info X (p:Int)) rfl (f2_one X (p:Int)) ?_)
       exact bodyPost_ret (v:=.tuple #[.slice none 0 0,.agg (F2 X (p:Int))]) (results_t_cell Tryz.results43 _ _ _ _ _ _ _ _ rfl rfl (setRow_heap _ _ _ _ _ _ hr0.out.row) Tryz.underlying65 rfl (f2_info X (p:Int))) rfl (HW.out _ (below_setRow HSw.out (Nat.le_refl _) _))
     rw [if_neg hf] at c3
     obtain ⟨g1,g2,g3,g4,g5⟩:=Head.enc_dec _ _ _ hq
     have gl:(Head.encL hh.c hh.t hh.b hh.n).length = k:=by rw [g5,List.length_take]; omega
     have gk:=(Head.encL_len hh.c hh.t hh.b hh.n).1
     have g2':2 <= k:=by
       rw [<- gl]
       unfold Head.encL Head.tagL Head.lenL Head.seg
       simp only [List.length_append]
       split <;> (try split) <;> (try split) <;> (try split) <;> (try split) <;> simp
     obtain ⟨e2,he2⟩:∃ e2,e2 = p + (k + hh.n):=⟨_,rfl⟩
     have c4:=total_ret k hh.n (by omega) (by omega)
     have c5:=split_ret p s.size (k + hh.n) (by omega) (by omega) e2 he2
     have c6:=cut_pe s p e2 (by omega) (by omega) hs
     obtain ⟨D,hD⟩:∃ D,D = s.extract p e2:=⟨_,rfl⟩
     rw [<- hD] at c6
     have HT2:Hid (prepE (L ++ [D]) (pcsF s f e2) = T):=lH (by rw [<- HT.out,pcs_one s f p L hpn hh k hq hf,hD,he2])
     have HL2:Hid ((L ++ [D]).length <= e2):=lH (by rw [List.length_append,List.length_singleton]; have:=HLp.out; omega)
     have HF2:Hid (s.size - e2 < f):=lH (by have:=HF.out; omega)
     have HE2:Hid (e2 <= s.size):=lH (by omega)
     have hL9:L.length <= 1099511627776:=by have:=HLp.out; omega
     have HM:Hid (L.length + 1 <= s.size):=lH (by have:=HLp.out; omega)
     clear HT HF HLp hq hx hf g1 g2 g3 g4 g5 gl gk g2' he2 hD
     go_wp2_with fail
     refine c1.calls ?_
     go_wp2_with fail
     refine c2.calls ?_
     go_wp2_with fail
     refine c3.calls0 ?_
     intro w1 h1
     have HS1:=lH ((HS.out.step h1).alloc (.cells (H4 (hh.c:Int) (hh.t:Int) hh.b (hh.n:Int)) 115))
     have HR1:=lH (World.ownsRow.alloc (Att.row_since HRo.out h1) (.cells (H4 (hh.c:Int) (hh.t:Int) hh.b (hh.n:Int)) 115))
     unfold H4 at HS1 HR1 ⊢
     clear h1 HRo HS
     go_wp2_with fail
     refine c4.calls ?_
     go_wp2_with fail
     refine c5.calls ?_
     go_wp2_with fail
     refine c6.calls ?_
     generalize w1.alloc (.cells #[.int .i64 (hh.c:Int),.int .i64 (hh.t:Int),.bool hh.b,.int .i64 (hh.n:Int)] 115) = W1 at HS1 HR1 ⊢
     go_wp2_with (at_builtin; refine app_one elemS rfl _ _ (by rfl) (w.alloc (.cells #[.int .i64 0,.int .i64 0] 65)) W1 _ L.length _ (by rfl) HR1.out HS1.out (.string D) (by rfl) rfl hL9 (by decide) ?_; intro v2 w2 hO hS2; obtain ⟨A2,c9,rfl⟩:∃ A c,v2 = .slice A (L.length + 1) c:=own_any hO; have HO:=lH hO; have HS2:=lH hS2; clear hO hS2)
     go_round
     case rel => exact ⟨e2,f,L ++ [D],A2,c9,HE2.out,by rw [List.length_append]; rfl,rfl,HL2,HF2,HT2,lH (by rw [List.length_append,List.map_append]; exact HO.out),HS2⟩
     case measure => show s.size + 1 - (L.length + 1) < s.size + 1 - L.length; have:=HM.out; omega
   · have t1:decide ((p:Int) < (s.size:Int)) = false:=decide_eq_false (by omega)
     have t2:decide (p < s.size) = false:=decide_eq_false hlt
     have HOK:Hid (T = .ok L):=lH (by rw [<- HT.out]; exact pcs_end s f p L (by omega))
     have hr0:=lH (HR.step (w:=w) ⟨heap_alloc_new w (.cells #[.int .i64 0,.int .i64 0] 65)⟩ HS.out)
     have HSw:=lH ((Since.alloc (Since.refl w) _).step HS.out)
     clear HT HF HLp
     go_wp2_with fail
     refine c1.calls ?_
     go_wp2_with fail
     refine c2.calls ?_
     go_wp2_with (refine wpList_store_row rfl 65 _ _ rfl w.heap.size (F2 0 0) (by rfl) (by rfl) _ _ hr0.out.row (f2_info 0 0) rfl (f2_one 0 0) ?_)
     have hself:wr.setRow w.heap.size (F2 0 0) = wr:=setRow_self _ _ _ _ _ hr0.out.row
     rw [hself]
     refine bodyPost_ret (v:=.tuple #[.slice A L.length cc,.agg (F2 0 0)]) (results_t_cell Tryz.results43 _ _ _ _ _ _ _ _ rfl rfl hr0.out.row Tryz.underlying65 rfl (f2_info 0 0)) rfl ?_
     rw [HOK.out]
     exact ⟨_,rfl,strs_own HRo.out,HSw.out⟩
theorem pieces_u (s:ByteArray) (hs:s.size <= 65535) (c p:Nat) (L:List ByteArray) (hv:pcsV s = (c,p,L)):PcR 43 s (c:Int) (p:Int) L:=by
 intro w
 unfold pcsV at hv
 rw [if_neg (by omega)] at hv
 refine (pieces_t s hs _ rfl w).mono ?_
 intro e w' h
 unfold PPost at h
 cases hq:pcsF s (s.size + 1) 0 with
 | error x =>
   obtain ⟨c',p'⟩:=x
   rw [hq] at h hv
   dsimp only at h hv
   cases hv
   exact ⟨_,h.1,StrsS.nil _,h.2⟩
 | ok l =>
   rw [hq] at h hv
   dsimp only at h hv
   cases hv
   exact h
end Tlv
end Go.Proofs.YtpanhhjkecebkaaGreat
namespace Go.Proofs.YtpanhhjkecebkaaGreat
namespace Tlv
open F
end Tlv
end Go.Proofs.YtpanhhjkecebkaaGreat
namespace Go.Proofs.YtpanhhjkecebkaaGreat
namespace Tlv
open Tree
theorem pcs_join (s:ByteArray):∀ (f p:Nat) (L:List ByteArray),p <= s.size -> pcsF s f p = .ok L -> (L.map fun b => b.data.toList).flatten = (s.extract p s.size).data.toList:=by
 intro f
 induction f with
 | zero => intro p L _ h; cases h
 | succ f ih =>
   intro p L hp h
   unfold pcsF at h
   by_cases h0:s.size <= p
   · rw [if_pos h0] at h
     cases h
     have h9:=ext_len s p s.size (Nat.le_refl _)
     symm
     exact List.eq_nil_of_length_eq_zero (by omega)
   · rw [if_neg h0] at h
     obtain ⟨⟨hh,k,x⟩,hq⟩:∃ y,y = Head.dec (s.extract p s.size).data.toList:=⟨_,rfl⟩
     rw [<- hq] at h
     dsimp only at h
     by_cases hx:x ≠ 0
     · rw [if_pos hx] at h; cases h
     rw [if_neg hx] at h
     by_cases hf:s.size - p < k + hh.n
     · rw [if_pos hf] at h; cases h
     rw [if_neg hf] at h
     cases hr:pcsF s f (p + (k + hh.n)) with
     | error y => rw [hr] at h; cases h
     | ok l =>
       rw [hr] at h
       cases h
       rw [List.map_cons,List.flatten_cons,ih _ _ (by omega) hr,<- ext_app s p (p + (k + hh.n)) s.size (by omega) (by omega)]
theorem pcs_err (s:ByteArray):∀ (f p c q:Nat),pcsF s f p = .error (c,q) -> c ≠ 0:=by
 intro f
 induction f with
 | zero => intro p c q h; cases h; decide
 | succ f ih =>
   intro p c q h
   unfold pcsF at h
   by_cases h0:s.size <= p
   · rw [if_pos h0] at h; cases h
   · rw [if_neg h0] at h
     obtain ⟨⟨hh,k,x⟩,hq⟩:∃ y,y = Head.dec (s.extract p s.size).data.toList:=⟨_,rfl⟩
     rw [<- hq] at h
     dsimp only at h
     by_cases hx:x ≠ 0
     · rw [if_pos hx] at h; cases h; exact hx
     rw [if_neg hx] at h
     by_cases hf:s.size - p < k + hh.n
     · rw [if_pos hf] at h; cases h; decide
     rw [if_neg hf] at h
     cases hr:pcsF s f (p + (k + hh.n)) with
     | error y => rw [hr] at h; cases h; exact ih _ _ _ hr
     | ok l => rw [hr] at h; cases h
theorem enc_one {g:F} (hs:single g) (hok:okF Strs.rightB g) (hl:g.enc.length <= 65535):∃ c t b n B,c <= 3 /\ t <= 2097151 /\ n <= 65535 /\ g.enc = Head.encL c t b n ++ B /\ B.length = n:=by
 cases g with
 | nil => exact absurd hs (by intro h; exact h)
 | prim c t d nx =>
   cases (show nx = .nil from hs)
   obtain ⟨a1,a2,-,-⟩:=hok
   have e:(F.prim c t d .nil).enc = Head.encL c t false d.size ++ d.data.toList:=by show Head.encL c t false d.size ++ d.data.toList ++ [] = _; rw [List.append_nil]
   have hd:d.data.toList.length = d.size:=rfl
   rw [e,List.length_append] at hl
   exact ⟨c,t,false,d.size,d.data.toList,a1,a2,by omega,e,rfl⟩
 | cons c t ks nx =>
   cases (show nx = .nil from hs)
   obtain ⟨a1,a2,-,-,-⟩:=hok
   have e:(F.cons c t ks .nil).enc = Head.encL c t true ks.enc.length ++ ks.enc:=by show Head.encL c t true ks.enc.length ++ ks.enc ++ [] = _; rw [List.append_nil]
   rw [e,List.length_append] at hl
   exact ⟨c,t,true,ks.enc.length,ks.enc,a1,a2,by omega,e,rfl⟩
theorem pcs_build (s:ByteArray):∀ (gs:List F) (f p:Nat),(∀ g ∈ gs,single g /\ okF Strs.rightB g /\ g.enc.length <= 65535) -> (s.extract p s.size).data.toList = (gs.map F.enc).flatten -> p <= s.size -> gs.length < f -> pcsF s f p = .ok (gs.map fun g => bs g.enc):=by
 intro gs
 induction gs with
 | nil =>
   intro f p _ h hp hf
   obtain ⟨f,rfl⟩:∃ f',f = f' + 1:=⟨f - 1,by omega⟩
   have h9:=ext_len s p s.size (Nat.le_refl _)
   rw [h] at h9
   unfold pcsF
   rw [if_pos (by simp at h9; omega)]
   rfl
 | cons g l ih =>
   intro f p hg h hp hf
   obtain ⟨f,rfl⟩:∃ f',f = f' + 1:=⟨f - 1,by omega⟩
   obtain ⟨h1,h2,h3⟩:=hg g (List.mem_cons_self ..)
   obtain ⟨c,t,b,n,B,b1,b2,b3,b4,b5⟩:=enc_one h1 h2 h3
   have h9:=ext_len s p s.size (Nat.le_refl _)
   rw [h,List.map_cons,List.flatten_cons,List.length_append] at h9
   have hlen:g.enc.length = (Head.encL c t b n).length + n:=by rw [b4,List.length_append,b5]
   have h2e:=encL_two c t b n
   have hx:(s.extract p (p + g.enc.length)).data.toList = g.enc /\ (s.extract (p + g.enc.length) s.size).data.toList = (l.map F.enc).flatten:=by
     have h8:=ext_app s p (p + g.enc.length) s.size (by omega) (by omega)
     rw [h,List.map_cons,List.flatten_cons] at h8
     exact List.append_inj h8.symm (by rw [ext_len s p _ (by omega)]; omega)
   have hd:Head.dec (s.extract p s.size).data.toList = (⟨c,t,b,n⟩,(Head.encL c t b n).length,0):=by
     rw [h,List.map_cons,List.flatten_cons,b4,List.append_assoc]
     exact Head.dec_enc c t n b b1 b2 b3 _
   have hl:=ih f (p + g.enc.length) (fun g' hg' => hg g' (List.mem_cons_of_mem _ hg')) hx.2 (by omega) (by rw [List.length_cons] at hf; omega)
   unfold pcsF
   rw [if_neg (by omega),hd]
   dsimp only
   rw [if_neg (by decide),if_neg (by omega),<- hlen,hl]
   dsimp only
   rw [List.map_cons,show s.extract p (p + g.enc.length) = bs g.enc from ba_ext hx.1]
theorem pcs_all (gs:List F) (hg:∀ g ∈ gs,single g /\ okF Strs.rightB g /\ g.enc.length <= 65535) (hl:(gs.map F.enc).flatten.length <= 65535):pcsV (bs (gs.map F.enc).flatten) = (0,0,gs.map fun g => bs g.enc):=by
 have hx:(bs (gs.map F.enc).flatten).extract 0 (bs (gs.map F.enc).flatten).size = bs (gs.map F.enc).flatten:=by simp
 have hn:∀ hs:List F,(∀ g ∈ hs,single g /\ okF Strs.rightB g /\ g.enc.length <= 65535) -> hs.length <= (hs.map F.enc).flatten.length:=by
   intro hs
   induction hs with
   | nil => intro _; exact Nat.le_refl _
   | cons g l ih =>
     intro h
     rw [List.map_cons,List.flatten_cons,List.length_append,List.length_cons]
     have:=enc_two (h g (List.mem_cons_self ..)).1
     have:=ih fun g' hg' => h g' (List.mem_cons_of_mem _ hg')
     omega
 have h1:=hn gs hg
 have hz:(bs (gs.map F.enc).flatten).size = (gs.map F.enc).flatten.length:=size_bs _
 unfold pcsV
 rw [if_neg (by omega),pcs_build _ gs _ 0 hg (by rw [hx]; rfl) (Nat.zero_le _) (by omega)]
theorem pcs_flat (s:ByteArray) (L:List ByteArray) (h:pcsV s = (0,0,L)) (hL:s.size <= 65535):(∃ l,pcsF s (s.size + 1) 0 = .ok l) -> (L.map fun b => b.data.toList).flatten = s.data.toList:=by
 rintro ⟨l,hl⟩
 unfold pcsV at h
 rw [if_neg (by omega),hl] at h
 dsimp only at h
 cases h
 have hx:s.extract 0 s.size = s:=by simp
 rw [pcs_join s _ _ _ (Nat.zero_le _) hl,hx]
end Tlv
end Go.Proofs.YtpanhhjkecebkaaGreat
namespace Go.Proofs.YtpanhhjkecebkaaGreat
open Go.RowKit
namespace Tree
open Tlv Strs Rw
theorem tops_le (g:F):∀ (i:Nat),(g.tops i).length <= g.cnt:=by
 induction g with
 | nil => intro i; exact Nat.le_refl _
 | prim c t d nx ih => intro i; show (nx.tops (i + 1)).length + 1 <= 1 + nx.cnt; have:=ih (i + 1); omega
 | cons c t ks nx _ ih => intro i; show (nx.tops (i + 1 + ks.cnt)).length + 1 <= 1 + ks.cnt + nx.cnt; have:=ih (i + 1 + ks.cnt); omega
theorem tops_num (g:F):∀ (i:Nat),∀ a ∈ g.tops i,(i:Int) <= a /\ a < (i:Int) + (g.cnt:Int):=by
 induction g with
 | nil => intro i a h; cases h
 | prim c t d nx ih =>
   intro i a h
   have hc:(F.prim c t d nx).cnt = 1 + nx.cnt:=rfl
   rw [hc]
   rcases List.mem_cons.1 (show a ∈ (i:Int) :: nx.tops (i + 1) from h) with rfl | h
   · omega
   · have:=ih (i + 1) a h; omega
 | cons c t ks nx _ ih =>
   intro i a h
   have hc:(F.cons c t ks nx).cnt = 1 + ks.cnt + nx.cnt:=rfl
   rw [hc]
   rcases List.mem_cons.1 (show a ∈ (i:Int) :: nx.tops (i + 1 + ks.cnt) from h) with rfl | h
   · omega
   · have:=ih (i + 1 + ks.cnt) a h; omega
theorem flat_k (g:F):∀ (i:Nat),∀ x ∈ g.flat i,x.k.length <= g.cnt /\ ∀ a ∈ x.k,(i:Int) <= a /\ a < (i:Int) + (g.cnt:Int):=by
 induction g with
 | nil => intro i x h; cases h
 | prim c t d nx ih =>
   intro i x h
   have hc:(F.prim c t d nx).cnt = 1 + nx.cnt:=rfl
   rw [hc]
   rcases List.mem_cons.1 (show x ∈ (⟨c,t,false,d,[]⟩:Nd) :: nx.flat (i + 1) from h) with rfl | h
   · exact ⟨Nat.zero_le _,fun a ha => by cases ha⟩
   · obtain ⟨h1,h2⟩:=ih (i + 1) x h
     exact ⟨by omega,fun a ha => by have:=h2 a ha; omega⟩
 | cons c t ks nx ih1 ih2 =>
   intro i x h
   have hc:(F.cons c t ks nx).cnt = 1 + ks.cnt + nx.cnt:=rfl
   rw [hc]
   rcases List.mem_cons.1 (show x ∈ (⟨c,t,true,⟨#[]⟩,ks.tops (i + 1)⟩:Nd) :: (ks.flat (i + 1) ++ nx.flat (i + 1 + ks.cnt)) from h) with rfl | h
   · refine ⟨by have:=tops_le ks (i + 1); show (ks.tops (i + 1)).length <= _; omega,fun a ha => ?_⟩
     have:=tops_num ks (i + 1) a ha
     omega
   · rcases List.mem_append.1 h with h | h
     · obtain ⟨h1,h2⟩:=ih1 (i + 1) x h
       exact ⟨by omega,fun a ha => by have:=h2 a ha; omega⟩
     · obtain ⟨h1,h2⟩:=ih2 (i + 1 + ks.cnt) x h
       exact ⟨by omega,fun a ha => by have:=h2 a ha; omega⟩
theorem fair_flat (g:F) (h:g.cnt <= 1000):Fair (g.flat 0):=⟨by rw [F.flat_len]; exact h,fun x hx => by have:=(flat_k g 0 x hx).1; omega,fun x hx a ha => by have:=(flat_k g 0 x hx).2 a ha; omega⟩
theorem join_take (gs:List F):∀ (a:Nat),(join (gs.take a)).cnt <= (join gs).cnt:=by
 induction gs with
 | nil => intro a; rw [List.take_nil]; exact Nat.le_refl _
 | cons g l ih =>
   intro a
   cases a with
   | zero => exact Nat.zero_le _
   | succ a =>
     show (g.app (join (l.take a))).cnt <= (g.app (join l)).cnt
     rw [F.cnt_app,F.cnt_app]
     have:=ih a
     omega
theorem mem_join (gs:List F):∀ g ∈ gs,g.cnt <= (join gs).cnt:=by
 induction gs with
 | nil => intro g h; cases h
 | cons g l ih =>
   intro g' h
   show _ <= (g.app (join l)).cnt
   rw [F.cnt_app]
   rcases List.mem_cons.1 h with rfl | h
   · omega
   · have:=ih g' h; omega
theorem of_g (c t:Nat) (gs:List F) (hs:∀ g ∈ gs,single g) (hn:gs.length <= 1000) (hc:(join gs).cnt <= 1000) (w:World) (P:Value) (hP:TreesS w P (gs.map (fun g => g.flat 0))):Calls Tryz.prog 54 #[.int .i64 (c:Int),.int .i64 (t:Int),P] w fun e w' => ∃ v',e = .returned v' /\ TreeS w' v' ((F.cons c t (join gs) .nil).flat 0) /\ Since w w':=by
 have key:∀ a,((gs.map (fun g => g.flat 0)).take a).foldl stepN [⟨(c:Int),(t:Int),true,⟨#[]⟩,[]⟩] = (F.cons c t (join (gs.take a)) .nil).flat 0:=fun a => by
   rw [<- List.map_take]
   exact ofN_flat c t (gs.take a) (fun g hg => hs g (List.mem_of_mem_take hg))
 have hle:∀ a,(F.cons c t (join (gs.take a)) .nil).cnt <= 1001:=fun a => by
   show 1 + (join (gs.take a)).cnt + 0 <= 1001
   have:=join_take gs a
   omega
 have h9:=of_mk (c:Int) (t:Int) (gs.map (fun g => g.flat 0)) (fun N hN => by
     obtain ⟨g,hg,rfl⟩:=List.mem_map.1 hN
     exact fair_flat g (by have:=mem_join gs g hg; omega)) (by rw [List.length_map]; exact hn) (fun a => by rw [key a,F.flat_len]; have:=hle a; omega) (fun a x hx => by
     rw [key a] at hx
     have:=(flat_k _ 0 x hx).1
     have:=hle a
     omega) w P hP
 rw [show ofN (c:Int) (t:Int) (gs.map (fun g => g.flat 0)) = (F.cons c t (join gs) .nil).flat 0 from ofN_flat c t gs hs] at h9
 exact h9
theorem trees_lit (W:World) (vs:List Value) (Ns:List (List Nd)) (hl:vs.length = Ns.length) (hm:Ns.length <= 1000) (h:∀ (j:Nat) x N,vs[j]? = some x -> Ns[j]? = some N -> TreeS W x N) (C:Array Value) (hC:C = vs.toArray) (t:TypeId) :
   TreesS (W.alloc (.cells C t)) (.slice (some ⟨W.heap.size,0,none⟩) Ns.length Ns.length) Ns :=
 ⟨vs,SlR.lit W 1 Ns.length vs (by omega) (by unfold maxLen; omega) C hC t,fun j x N hx hN => (h j x N hx hN).since ((Since.refl W).alloc _)⟩
end Tree
namespace Tree
open Tlv Strs Rw
theorem rleaf_mk (c t:Int) (d:ByteArray):MkT 57 #[.int .i64 c,.int .i64 t,.string d] [⟨c,t,false,d,[]⟩]:=by
 intro w
 go_enter Tryz.func57,Tryz.ntmps57
 go_wp2_with fail
 go_ret
 refine ⟨_,rfl,⟨[(⟨c,t,false,d,[]⟩,.slice none 0 0)],⟨?_, ?_⟩,rfl⟩,(Since.refl w).alloc _⟩
 · exact SlR.lit w 5 1 _ rfl (by decide) _ rfl _
 · intro x hx
   obtain rfl:=List.mem_singleton.1 hx
   exact SlR.nil _ 1
set_option maxHeartbeats 8000000 in
theorem rof_mk (c t:Int) (Ns:List (List Nd)) (hF:∀ N ∈ Ns,Fair N) (hnl:Ns.length <= 1000) (hsum:∀ a,((Ns.take a).foldl stepN [⟨c,t,true,⟨#[]⟩,[]⟩]).length <= 10000) (hks:∀ a,∀ x ∈ (Ns.take a).foldl stepN [⟨c,t,true,⟨#[]⟩,[]⟩],x.k.length <= 100000) (w:World) (P:Value) (hP:TreesS w P Ns):Calls Tryz.prog 56 #[.int .i64 c,.int .i64 t,P] w fun e w' => ∃ v',e = .returned v' /\ TreeS w' v' (ofN c t Ns) /\ Since w w':=by
 have HP:=lH hP
 have HS:=lH (Since.refl w)
 obtain ⟨PA,pc,rfl,hp1,hp2⟩:=hP.slice
 have HFF:=lH hF
 have HSM:=lH hsum
 have HKS:=lH hks
 clear hP hF hsum hks
 go_enter Tryz.func56,Tryz.ntmps56
 go_wp2_with fail
 have hR0:Hid (Rw.Rows (w.alloc (.cells #[.int .i64 c,.int .i64 t,.bool true,.string ⟨#[]⟩,.slice none 0 0] 87)) w.heap.size (⟨87,5,.slice (some ⟨w.heap.size,0,none⟩) 1 1,1,[((⟨c,t,true,⟨#[]⟩,[]⟩:Nd),Value.slice none 0 0)].flatMap nc⟩ :: [((⟨c,t,true,⟨#[]⟩,[]⟩:Nd),Value.slice none 0 0)].map kr)):=lH (by
   refine ⟨fun r hr => ?_,List.pairwise_cons.2 ⟨fun r hr => ?_,by simp⟩⟩
   · rcases List.mem_cons.1 hr with rfl | hr
     · exact own_lone (C:=[.int .i64 c,.int .i64 t,.bool true,.string ⟨#[]⟩,.slice none 0 0]) (Nat.le_refl _) (heap_alloc_new w _)
     · rw [List.mem_singleton.1 hr]
       exact World.ownsRow_nil _ _ _ _
   · rw [List.mem_singleton.1 hr]
     exact Rw.Apart.none.symm)
 have HS0:=lH ((Since.refl w).alloc (.cells #[.int .i64 c,.int .i64 t,.bool true,.string ⟨#[]⟩,.slice none 0 0] 87))
 clear HS
 go_loopw [7,8] (fun V i wr => ∃ (a:Nat) (E:List (Nd × Value)),i = .int .i64 (a:Int) /\ a <= Ns.length /\ 0 < E.length /\ Hid (E.map Prod.fst = (Ns.take a).foldl stepN [⟨c,t,true,⟨#[]⟩,[]⟩]) /\ Hid (Rw.Rows wr w.heap.size (⟨87,5,V,E.length,E.flatMap nc⟩ :: E.map kr)) /\ Hid (Since w wr)) (fun _ i _ => Ns.length - (intOf i).toNat)
 case atStart => exact ⟨0,[((⟨c,t,true,⟨#[]⟩,[]⟩:Nd),Value.slice none 0 0)],rfl,Nat.zero_le _,Nat.zero_lt_one,lH rfl,hR0,HS0⟩
 case round =>
   clear HS0 hR0
   obtain ⟨a,E,rfl,ha,hE0,hE,HR,HS⟩:=hrel
   obtain ⟨g,cc,hV,hc1,hc2⟩:=own_form (HR.out.own _ List.mem_cons_self) hE0
   dsimp only at hV
   subst hV
   by_cases hlt:a < Ns.length
   · obtain ⟨b,o,c9,hv,l3,l4⟩:=HP.out.form (by omega)
     obtain ⟨rfl,-,rfl⟩:=Value.slice.inj hv
     clear hv
     obtain ⟨M,hM⟩:∃ M,Ns[a]? = some M:=⟨_,List.getElem?_eq_getElem hlt⟩
     obtain ⟨x,hx1,hx2⟩:=l4 a M hM
     have n0:=(Below.cell HS.out (p:=⟨b,o + a,none⟩) l3).trans hx1
     have HX:=lH hx2
     have hfs:=fold_snoc [⟨c,t,true,⟨#[]⟩,[]⟩] Ns a M hM
     rw [<- hE.out] at hfs
     have HFS:=lH hfs
     have hMF:=HFF.out M (List.mem_iff_getElem?.2 ⟨a,hM⟩)
     obtain ⟨XA,xc,rfl,-,-⟩:=hx2.slice
     by_cases hM0:M.length = 0
     · have t1:decide ((0:Int) < (M.length:Int)) = false:=decide_eq_false (by omega)
       have t2:decide (0 < M.length) = false:=decide_eq_false (by omega)
       have hE2:Hid (E.map Prod.fst = (Ns.take (a + 1)).foldl stepN [⟨c,t,true,⟨#[]⟩,[]⟩]):=lH (by
         rw [HFS.out]
         unfold stepN
         rw [if_pos hM0])
       have ha1:(0:Int) <= (a:Int):=by omega
       have ha2:(a:Int) < (Ns.length:Int):=by omega
       clear l4 hx1 hx2 hM hfs
       go_wp2_with fail
       go_loopw [7,10] (fun V' jv wr' => V' = .slice (some ⟨g,0,none⟩) E.length cc /\ jv = .int .i64 0 /\ wr' = wr) (fun _ jv _ => 0)
       case atStart => exact ⟨rfl,rfl,rfl⟩
       case round =>
         obtain ⟨rfl,rfl,rfl⟩:=hrel
         go_wp2_with fail
         go_roundw
         case rel => exact ⟨a + 1,E,by go_num,by omega,hE0,hE2,HR,HS⟩
         case measure => (simp [intOf] <;> omega)
     · have t1:decide ((0:Int) < (M.length:Int)) = true:=decide_eq_true (by omega)
       have t2:decide (0 < M.length) = true:=decide_eq_true (by omega)
       obtain ⟨⟨hd,kv⟩,E',rfl⟩:∃ y E',E = y :: E':=by
         cases E with
         | nil => exact absurd hE0 (Nat.lt_irrefl _)
         | cons y E' => exact ⟨y,E',rfl⟩
       have hlenE:E'.length + 1 <= 10000:=by
         have h9:=HSM.out a
         rw [<- hE.out,List.length_map] at h9
         exact h9
       have hkl:hd.k.length <= 100000:=by
         have h9:=HKS.out a hd
         rw [<- hE.out] at h9
         exact h9 (by simp)
       have hRk:=HR.out.own (kr (hd,kv)) (by simp)
       obtain ⟨kA,kc,hkv⟩:∃ A c,kv = .slice A hd.k.length c:=own_any hRk
       subst hkv
       have o2:=((own_cells (HR.out.own _ List.mem_cons_self)).2.2 4 (.slice kA hd.k.length kc) rfl).1
       obtain ⟨m,hm⟩:∃ m,m = E'.length + 1:=⟨_,rfl⟩
       have hRR:Rw.Rows wr w.heap.size (([⟨87,5,.slice (some ⟨g,0,none⟩) m cc,m,((hd,.slice kA hd.k.length kc) :: E').flatMap nc⟩]:List Row) ++ ⟨3,1,.slice kA hd.k.length kc,hd.k.length,hd.k.map (Value.int .i64)⟩ :: E'.map kr):=by
         rw [hm]
         exact HR.out
       have HRR:=lH hRR
       have HB1:=lH (show hd.k.length + 1 <= maxLen by unfold maxLen; omega)
       have HB2:=lH (show (hd.k.length + 1) * 8 <= 140737488355328 by omega)
       have hm1:0 < m:=by omega
       have x1:(0:Int) < (m:Int):=by omega
       have HM1:=lH (show 4 < m * 5 by omega)
       have hm3:m <= 10000:=by omega
       have HMM:=lH hm
       have e8:((hd,Value.slice kA hd.k.length kc) :: E').length = m:=by rw [hm]; rfl
       rw [e8]
       have ha1:(0:Int) <= (a:Int):=by omega
       have ha2:(a:Int) < (Ns.length:Int):=by omega
       have N0:=lH (And.intro l3 hx1)
       obtain ⟨bx,ox,cx,hxe,-,-,b1,b2⟩:=treeform hx2 (by omega)
       obtain ⟨rfl,-,rfl⟩:=Value.slice.inj hxe
       have B1:=lH b1
       have B2:=lH b2
       clear l4 hx1 hx2 hM hfs hRR HR hRk e8 hlenE hE0 hm b1 b2 hxe
       have tok1:True:=trivial
       go_wp2_with (first
         | (at_builtin; have _t:=tok1; refine app_rows elemT rfl _ _ (by rfl) w wr _ rfl _ _ (.slice kA hd.k.length kc) hd.k.length _ (by rfl) HRR.out HS.out #[.int .i64 (m:Int)] 1 1 (by rfl) rfl (by intro v hv; simp at hv; subst hv; rfl) HB1.out HB2.out ?_; intro kv2 w6 HQ1 HT1 hk1; obtain ⟨ka,kc2,rfl⟩:∃ A c,kv2 = .slice A (hd.k.length + 1) c:=own_any HQ1.get; have HR6:=lH HQ1; have HS6:=lH HT1; clear HQ1 HT1 hk1 tok1 o2 n0)
         | (refine RwL.store_rows rfl 44 _ _ (by rfl) intl_one w w6 [] (⟨3,1,.slice ka (hd.k.length + 1) kc2,hd.k.length + 1,hd.k.map (Value.int .i64) ++ ([.int .i64 (m:Int)]:List Value)⟩ :: E'.map kr) 87 5 g m cc _ HR6.out HS6.out 4 HM1.out (by rfl) (.slice ka (hd.k.length + 1) kc2) (by rfl) rfl ?_; intro w7 HQ2 HT2 hk2))
       have hst:(((hd,Value.slice kA hd.k.length kc) :: E').flatMap nc).set 4 (.slice ka (hd.k.length + 1) kc2) = ((({ hd with k:=hd.k ++ [(m:Int)] }:Nd),Value.slice ka (hd.k.length + 1) kc2) :: E').flatMap nc:=mset [] E' hd (.slice kA hd.k.length kc) (.slice ka (hd.k.length + 1) kc2) (hd.k ++ [(m:Int)])
       obtain ⟨E1,hE1⟩:∃ E1,E1 = (({ hd with k:=hd.k ++ [(m:Int)] }:Nd),Value.slice ka (hd.k.length + 1) kc2) :: E':=⟨_,rfl⟩
       have hl1:E1.length = m:=by rw [hE1,HMM.out]; rfl
       have hR7:Rw.Rows w7 w.heap.size (⟨87,5,.slice (some ⟨g,0,none⟩) m cc,E1.length,E1.flatMap nc⟩ :: E1.map kr):=by
         have e2:kr (({ hd with k:=hd.k ++ [(m:Int)] }:Nd),Value.slice ka (hd.k.length + 1) kc2) = ⟨3,1,.slice ka (hd.k.length + 1) kc2,hd.k.length + 1,hd.k.map (Value.int .i64) ++ ([.int .i64 (m:Int)]:List Value)⟩:=by
           unfold kr
           simp
         rw [hl1,hE1,List.map_cons,e2,<- hst]
         exact HQ2
       have hstep:stepN (((hd,Value.slice kA hd.k.length kc) :: E').map Prod.fst) M = E1.map Prod.fst ++ M.map (shift (m:Int)):=by
         unfold stepN
         rw [if_neg hM0,List.length_map,show ((hd,Value.slice kA hd.k.length kc) :: E').length = m from by rw [HMM.out]; rfl,hE1]
         rfl
       rw [hstep] at HFS
       have HFS2:=HFS
       have HR7:=lH hR7
       have HS7:=lH HT2
       have HL1:=lH hl1
       have HM9:=lH hMF
       clear hst hR7 HQ2 HT2 hk2 HR6 HS6 hl1 hstep HFS hMF HRR HMM hE HM1 HB1 HB2 HS
       go_wp2_with fail
       go_loopw [7,10] (fun V' jv wr' => ∃ (j:Nat) (G:List (Nd × Value)),jv = .int .i64 (j:Int) /\ j <= M.length /\ Hid (G.length = m + j) /\ Hid (G.map Prod.fst = E1.map Prod.fst ++ (M.take j).map (shift (m:Int))) /\ Hid (Rw.Rows wr' w.heap.size (⟨87,5,V',G.length,G.flatMap nc⟩ :: G.map kr)) /\ Hid (Since w wr')) (fun _ jv _ => M.length - (intOf jv).toNat)
       case atStart => exact ⟨0,E1,rfl,Nat.zero_le _,lH (by rw [HL1.out]; rfl),lH (by simp),HR7,HS7⟩
       case round =>
         clear HR7 HS7
         obtain ⟨j,G,rfl,hj,hG,hGm,HR,HS⟩:=hrel
         have n0:=(Below.cell HS.out (p:=⟨b,o + a,none⟩) N0.out.1).trans N0.out.2
         by_cases hlj:j < M.length
         · obtain ⟨y,hy⟩:∃ y,M[j]? = some y:=⟨_,List.getElem?_eq_getElem hlj⟩
           have hym:=List.mem_iff_getElem?.2 ⟨j,hy⟩
           obtain ⟨A,q,m0,m1,m2,m3,m4,m5⟩:=B2.out j y hy
           have q0:=(Below.cell HS.out (p:=⟨bx,ox + j * 5,none⟩) B1.out).trans m0
           have q1:=(Below.cell HS.out (p:=⟨bx,ox + j * 5 + 1,none⟩) B1.out).trans m1
           have q2:=(Below.cell HS.out (p:=⟨bx,ox + j * 5 + 2,none⟩) B1.out).trans m2
           have q3:=(Below.cell HS.out (p:=⟨bx,ox + j * 5 + 3,none⟩) B1.out).trans m3
           have q4:=(Below.cell HS.out (p:=⟨bx,ox + j * 5 + 4,none⟩) B1.out).trans m4
           have hml:M.length <= 1000:=HM9.out.len
           have x3:(j:Int) < (M.length:Int):=by omega
           have x4:(0:Int) <= (j:Int):=by omega
           have c5:=rmoved_own y.k (m:Int) (HM9.out.kids y hym) (by omega) (HM9.out.nums y hym)
           have r1:(wr.alloc (.cells #[.int .i64 0,.int .i64 0,.bool false,.string ⟨#[]⟩,.slice none 0 0] 87)).heap[wr.heap.size]? = some (.cells #[.int .i64 0,.int .i64 0,.bool false,.string ⟨#[]⟩,.slice none 0 0] 87 (0,0)):=heap_alloc_new wr _
           have hb:=lH (hb_row (K:=KT) (C':=#[.int .i64 y.c,.int .i64 y.t,.bool y.b,.string y.d,.slice A y.k.length q]) ((Since.refl wr).alloc _) (Nat.le_refl _) trivial r1)
           obtain ⟨_,y0,y1,y2,y3,y4⟩:=hb5 hb
           have hwr:w.heap.size <= wr.heap.size:=Below.size HS.out
           have hrow3:=lH (rows_fresh HR.out hb.out.since (RwL.lone 87 wr.heap.size [.int .i64 y.c,.int .i64 y.t,.bool y.b,.string y.d,.slice A y.k.length q]) (own_lone (Nat.le_refl _) (setRow_heap _ _ _ _ _ _ r1)) hwr)
           have HS3:=lH (HS.out.step hb.out.since)
           have K5:=lH ((m5.since HS.out).since hb.out.since)
           have hsplit:(M.take (j + 1)).map (shift (m:Int)) = (M.take j).map (shift (m:Int)) ++ [shift (m:Int) y]:=by
             obtain ⟨g1,g2⟩:=List.getElem?_eq_some_iff.1 hy
             rw [List.take_succ_eq_append_getElem g1,g2,List.map_append]
             rfl
           have HSP:=lH hsplit
           clear m0 m1 m2 m3 m4 m5 hy hym hsplit HR HS
           go_wp2_with (refine wpList_store_row rfl 87 _ _ rfl wr.heap.size #[.int .i64 y.c,.int .i64 y.t,.bool y.b,.string y.d,.slice A y.k.length q] (by rfl) (by rfl) _ _ r1 (node_info _ _ _ _ _ _ _) rfl (node_one _ _ _ _ _ _ _) ?_)
           clear q0 q1 q2 q3 q4 y0 y1 y2 y3 y4 r1 hb n0
           generalize World.setRow _ _ _ = W3 at hrow3 HS3 K5 ⊢
           refine (c5 W3 _ K5.out).mono ?_
           rintro _ w4 ⟨A2,q2,rfl,ho2,h4⟩
           have hrow4:=rows_fresh hrow3.out h4 ⟨3,1,.slice A2 y.k.length q2,y.k.length,(y.k.map (· + (m:Int))).map (Value.int .i64)⟩ ho2 (Below.size HS3.out)
           have HR4:=lH (show Rw.Rows w4 w.heap.size (([⟨3,1,.slice A2 y.k.length q2,y.k.length,(y.k.map (· + (m:Int))).map (Value.int .i64)⟩]:List Row) ++ ⟨87,5,.slice (some ⟨wr.heap.size,0,none⟩) 1 1,1,[.int .i64 y.c,.int .i64 y.t,.bool y.b,.string y.d,.slice A y.k.length q]⟩ :: (⟨87,5,_,G.length,G.flatMap nc⟩ :: G.map kr)) from hrow4)
           have HS4:=lH (HS3.out.step h4)
           clear ho2 h4 hrow4 hrow3 HS3 K5 c5
           have tok1:True:=trivial
           have HB1:=lH (show G.length + 1 <= maxLen by have:=hG.out; have:=HM9.out.len; unfold maxLen; omega)
           have HB2:=lH (show (G.length + 1) * 64 <= 140737488355328 by have:=hG.out; have:=HM9.out.len; omega)
           go_wp2_with (first
             | (refine RwL.store_rows rfl 44 _ _ (by rfl) intl_one w w4 _ _ 87 5 wr.heap.size 1 1 _ HR4.out HS4.out 4 (by decide) (by rfl) (.slice A2 y.k.length q2) (by rfl) rfl ?_; intro w5 HQ5 HT5 hk5; have hbx:=HQ5.own (RwL.lone 87 wr.heap.size [.int .i64 y.c,.int .i64 y.t,.bool y.b,.string y.d,.slice A2 y.k.length q2]) (by simp [RwL.lone]); have y0:=(RwL.lone_cell hbx 0 _ rfl).1; have y1:=(RwL.lone_cell hbx 1 _ rfl).1; have y2:=(RwL.lone_cell hbx 2 _ rfl).1; have y3:=(RwL.lone_cell hbx 3 _ rfl).1; have y4:=(RwL.lone_cell hbx 4 _ rfl).1; have HR5:=lH HQ5; have HS5:=lH HT5; clear HQ5 HT5 hk5 hbx)
             | (at_builtin; have _t:=tok1; refine app_rows elemN rfl _ _ (by rfl) w w5 _ rfl ([⟨3,1,.slice A2 y.k.length q2,y.k.length,(y.k.map (· + (m:Int))).map (Value.int .i64)⟩,RwL.lone 87 wr.heap.size [.int .i64 y.c,.int .i64 y.t,.bool y.b,.string y.d,.slice A2 y.k.length q2]]:List Row) (G.map kr) _ G.length (G.flatMap nc) (by rfl) HR5.out HS5.out #[.int .i64 y.c,.int .i64 y.t,.bool y.b,.string y.d,.slice A2 y.k.length q2] 1 1 (by rfl) rfl (by intro u hu; simp at hu; rcases hu with rfl | rfl | rfl | rfl | rfl <;> rfl) HB1.out HB2.out ?_; intro V2 w6 HQ6 HT6 hk6; clear tok1))
           have e9:kr (shift (m:Int) y,.slice A2 y.k.length q2) = ⟨3,1,.slice A2 y.k.length q2,y.k.length,(y.k.map (· + (m:Int))).map (Value.int .i64)⟩:=by
             unfold kr shift
             simp
           have h7:=rows_last (rs:=RwL.lone 87 wr.heap.size [.int .i64 y.c,.int .i64 y.t,.bool y.b,.string y.d,.slice A2 y.k.length q2] :: ⟨87,5,V2,G.length + 1,G.flatMap nc ++ nc (shift (m:Int) y,.slice A2 y.k.length q2)⟩ :: G.map kr) HQ6
           have h8:=RwL.rows_drop h7
           have HR9:Hid (Rw.Rows w6 w.heap.size (⟨87,5,V2,(G ++ [(shift (m:Int) y,Value.slice A2 y.k.length q2)]).length,(G ++ [(shift (m:Int) y,Value.slice A2 y.k.length q2)]).flatMap nc⟩ :: (G ++ [(shift (m:Int) y,Value.slice A2 y.k.length q2)]).map kr)):=lH (by
             rw [List.length_append,List.flatMap_append,List.map_append,List.map_cons,List.map_nil,e9,List.flatMap_cons,List.flatMap_nil,List.append_nil]
             exact h8)
           have HD9:Hid ((G ++ [(shift (m:Int) y,Value.slice A2 y.k.length q2)]).map Prod.fst = E1.map Prod.fst ++ (M.take (j + 1)).map (shift (m:Int))):=lH (by
             rw [HSP.out,List.map_append,hGm.out,List.append_assoc]
             rfl)
           have HL9:Hid ((G ++ [(shift (m:Int) y,Value.slice A2 y.k.length q2)]).length = m + (j + 1)):=lH (by rw [List.length_append,hG.out]; rfl)
           have HS9:=lH HT6
           clear h7 h8 HQ6 HT6 hk6 e9
           go_wp2_with fail
           go_roundw
           case rel => exact ⟨j + 1,_,by go_num,by omega,HL9,HD9,HR9,HS9⟩
           case measure => (simp [intOf] <;> omega)
         · obtain rfl:j = M.length:=by omega
           have HE9:Hid (G.map Prod.fst = (Ns.take (a + 1)).foldl stepN [⟨c,t,true,⟨#[]⟩,[]⟩]):=lH (by rw [HFS2.out,hGm.out,List.take_length])
           have hGl:0 < G.length:=by have:=hG.out; omega
           go_wp2_with fail
           go_roundw
           case rel => exact ⟨a + 1,G,by go_num,by omega,hGl,HE9,HR,HS⟩
           case measure => (simp [intOf] <;> omega)
   · obtain rfl:a = Ns.length:=by omega
     have hT:TreeS wr (.slice (some ⟨g,0,none⟩) E.length cc) (ofN c t Ns):=⟨E,⟨SlR.own (HR.out.own _ List.mem_cons_self),fun x hx => by
       have h9:=HR.out.own (kr x) (List.mem_cons_of_mem _ (List.mem_map.2 ⟨x,hx,rfl⟩))
       have h8:SlR wr 1 x.2 x.1.k.length (x.1.k.map (Value.int .i64)):=SlR.own h9
       exact h8⟩,by rw [hE.out,List.take_length]; rfl⟩
     have HT:=lH hT
     clear hT
     go_wp2_with fail
     go_ret
     exact ⟨_,rfl,HT.out,HS.out⟩
theorem rof_g (c t:Nat) (gs:List F) (hs:∀ g ∈ gs,single g) (hn:gs.length <= 1000) (hc:(join gs).cnt <= 1000) (w:World) (P:Value) (hP:TreesS w P (gs.map (fun g => g.flat 0))):Calls Tryz.prog 56 #[.int .i64 (c:Int),.int .i64 (t:Int),P] w fun e w' => ∃ v',e = .returned v' /\ TreeS w' v' ((F.cons c t (join gs) .nil).flat 0) /\ Since w w':=by
 have key:∀ a,((gs.map (fun g => g.flat 0)).take a).foldl stepN [⟨(c:Int),(t:Int),true,⟨#[]⟩,[]⟩] = (F.cons c t (join (gs.take a)) .nil).flat 0:=fun a => by
   rw [<- List.map_take]
   exact ofN_flat c t (gs.take a) (fun g hg => hs g (List.mem_of_mem_take hg))
 have hle:∀ a,(F.cons c t (join (gs.take a)) .nil).cnt <= 1001:=fun a => by
   show 1 + (join (gs.take a)).cnt + 0 <= 1001
   have:=join_take gs a
   omega
 have h9:=rof_mk (c:Int) (t:Int) (gs.map (fun g => g.flat 0)) (fun N hN => by
     obtain ⟨g,hg,rfl⟩:=List.mem_map.1 hN
     exact fair_flat g (by have:=mem_join gs g hg; omega)) (by rw [List.length_map]; exact hn) (fun a => by rw [key a,F.flat_len]; have:=hle a; omega) (fun a x hx => by
     rw [key a] at hx
     have:=(flat_k _ 0 x hx).1
     have:=hle a
     omega) w P hP
 rw [show ofN (c:Int) (t:Int) (gs.map (fun g => g.flat 0)) = (F.cons c t (join gs) .nil).flat 0 from ofN_flat c t gs hs] at h9
 exact h9
end Tree
namespace Tree
open Tlv Strs
structure N3 (w:World) (b p:Nat) (x y z:Value) (W:World):Prop where
 since:Since w W
 lt:b < w.heap.size
 c0:W.cell? ⟨b,p,none⟩ = some x
 c1:W.cell? ⟨b,p + 1,none⟩ = some y
 c2:W.cell? ⟨b,p + 2,none⟩ = some z
section
variable {w:World} {b p:Nat} {x y z:Value} {W W':World}
theorem n3step (hs:Since W W') (h:Hid (N3 w b p x y z W)):Hid (N3 w b p x y z W'):=by
 have hl:b < W.heap.size:=Nat.lt_of_lt_of_le h.out.lt (Below.size h.out.since)
 exact lH ⟨h.out.since.step hs,h.out.lt,(Below.cell hs (p:=⟨b,p,none⟩) hl).trans h.out.c0,(Below.cell hs (p:=⟨b,p + 1,none⟩) hl).trans h.out.c1,(Below.cell hs (p:=⟨b,p + 2,none⟩) hl).trans h.out.c2⟩
theorem n3drew (h:Hid (N3 w b p x y z W)):Hid (N3 w b p x y z W.drew):=n3step (Since.drew (Since.refl _)) h
theorem n3all (h:Hid (N3 w b p x y z W)):Hid (N3 w b p x y z W) /\ W.cell? ⟨b,p,none⟩ = some x /\ W.cell? ⟨b,p + 1,none⟩ = some y /\ W.cell? ⟨b,p + 2,none⟩ = some z:=⟨h,h.out.c0,h.out.c1,h.out.c2⟩
end
theorem bs_app (l m:List UInt8):bs l ++ bs m = bs (l ++ m):=by
 apply ba_ext
 rw [app_list]
 rfl
def BytR (N:List Nd) (Bs:List (List UInt8)) (i:Nat):Prop:=∀ x b,N[i]? = some x -> Bs[i]? = some b -> RdT 105 N (fun v => #[v,.int .i64 (i:Int)]) (.tuple #[.string (bs (el x b)),.bool true])
set_option maxHeartbeats 8000000 in
theorem bytes_step (N:List Nd) (Bs:List (List UInt8)) (S:List UInt8) (hW:Wr N Bs S) (hS:S.length <= 65000) (hn1:N.length <= 1000) (i:Nat) (ih:∀ j,i < j -> j < N.length -> BytR N Bs j):BytR N Bs i:=by
 intro x bd hx hbd w v h
 have hi:i < N.length:=(List.getElem?_eq_some_iff.1 hx).1
 have HT:=lH h
 obtain ⟨b,o,c,rfl,-,-,b1,b2⟩:=treeform h (by omega)
 obtain ⟨A,q,m0,m1,m2,m3,m4,m5⟩:=b2 i x hx
 have HS:=lH (Since.refl w)
 have HN:=lH (show N3 w b (o + i * 5) (.int .i64 x.c) (.int .i64 x.t) (.bool x.b) w from ⟨Since.refl w,b1,m0,m1,m2⟩)
 have B1:=lH b1
 have M3:=lH m3
 have M4:=lH m4
 have K5:=lH m5
 have i1:(i:Int) < (N.length:Int):=by omega
 have i2:(0:Int) <= (i:Int):=by omega
 have hkl:=IntsS.le K5.out
 obtain ⟨f1,f2⟩:=hW.body i x hx
 have hbd2:bd = x.d.data.toList ++ elsAt N Bs x.k:=Option.some.inj (hbd.symm.trans f1)
 have hbl:bd.length <= 65000:=Nat.le_trans (hW.bnd bd (List.mem_iff_getElem?.2 ⟨i,hbd⟩)) hS
 obtain ⟨C,T,hC,hT,C3,T3⟩:=hW.nd x (List.mem_iff_getElem?.2 ⟨i,hx⟩)
 have F2:=lH f2
 have HWR:=lH hW
 have HBD:=lH hbd2
 have HSS:=lH hS
 have HIH:=lH ih
 obtain ⟨xb,hxb⟩:∃ xb,xb = x.b:=⟨_,rfl⟩
 obtain ⟨D,hD⟩:∃ D,D = x.d:=⟨_,rfl⟩
 rw [hC,hT,<- hxb] at HN
 rw [<- hD] at M3 m3
 obtain ⟨R,hR⟩:∃ R,R = bs (el x bd):=⟨_,rfl⟩
 rw [<- hR]
 have hR2:R = bs (Head.encL C T xb bd.length) ++ bs bd:=by
   rw [hR,bs_app,hxb]
   unfold el
   rw [hC,hT,Int.toNat_natCast,Int.toNat_natCast]
 have HR:=lH hR2
 have HDD:=lH hD
 clear h b2 m0 m1 m2 m4 m5 f1 f2 hW hS ih hx hbd hbd2 hR hR2 hC hT hxb b1 hD
 go_enter Tryz.func105,Tryz.ntmps105
 go_wp2_with fail
 clear m3
 go_loopw [6,7] (fun s j wr => ∃ (a:Nat) (V:ByteArray),j = .int .i64 (a:Int) /\ s = .string V /\ a <= x.k.length /\ Hid (V = bs (D.data.toList ++ elsAt N Bs (x.k.take a))) /\ Hid (Since w wr)) (fun _ j _ => x.k.length - (intOf j).toNat)
 case atStart => exact ⟨0,D,rfl,rfl,Nat.zero_le _,lH (by show D = bs (D.data.toList ++ []); rw [List.append_nil,bs_list]),HS⟩
 case round =>
   clear HS
   obtain ⟨a,V,rfl,rfl,ha,hV,HS⟩:=hrel
   have m4:=(Below.cell HS.out (p:=⟨b,o + i * 5 + 4,none⟩) B1.out).trans M4.out
   by_cases hlt:a < x.k.length
   · obtain ⟨bk,ok,dk,hv,-,-,l3,l4⟩:=K5.out.form (by omega)
     obtain ⟨rfl,-,rfl⟩:=Value.slice.inj hv
     clear hv
     obtain ⟨y,hy⟩:∃ y,x.k[a]? = some y:=⟨_,List.getElem?_eq_getElem hlt⟩
     obtain ⟨r1,r2⟩:=F2.out y (List.mem_iff_getElem?.2 ⟨a,hy⟩)
     obtain ⟨qq,rfl⟩:∃ qq:Nat,y = (qq:Int):=⟨y.toNat,by omega⟩
     have c9:=(Below.cell HS.out (p:=⟨bk,ok + a,none⟩) l3).trans (l4 a hlt)
     rw [show x.k.getD a 0 = (qq:Int) by simp [List.getD,hy]] at c9
     have hqn:qq < N.length:=by omega
     obtain ⟨z,hz⟩:∃ z,N[qq]? = some z:=⟨_,List.getElem?_eq_getElem hqn⟩
     obtain ⟨bz,hbz⟩:∃ bz,Bs[qq]? = some bz:=⟨_,(HWR.out.body qq z hz).1⟩
     have cI:=HIH.out qq (by omega) hqn z bz hz hbz
     obtain ⟨E,hE⟩:∃ E,E = bs (el z bz):=⟨_,rfl⟩
     rw [<- hE] at cI
     have hstep:V ++ E = bs (D.data.toList ++ elsAt N Bs (x.k.take (a + 1))):=by
       rw [hV.out,hE,bs_app,elsAt_snoc N Bs x.k a _ hy,Int.toNat_natCast,elAt_eq hz hbz,List.append_assoc]
     have hsz:(V ++ E).size <= 65000:=by
       rw [hstep,size_bs]
       refine Nat.le_trans ?_ hbl
       rw [HBD.out,HDD.out,List.length_append,List.length_append]
       refine Nat.add_le_add_left ?_ _
       conv => rhs; rw [<- List.take_append_drop (a + 1) x.k]
       unfold elsAt
       rw [List.flatMap_append,List.length_append]
       omega
     have hsz2:=hsz
     rw [ByteArray.size_append] at hsz2
     have w1:¬ 9223372036854775807 < V.size + E.size:=by omega
     have t1:decide ((65535:Int) < ((V ++ E).size:Int)) = false:=decide_eq_false (by omega)
     have t2:decide (65535 < (V ++ E).size) = false:=decide_eq_false (by omega)
     have HST:=lH hstep
     have HT2:=lH (HT.out.since HS.out)
     clear hy hz hbz hE hstep hsz hsz2 r1 r2 l4
     go_wp2_with fail
     refine cI.calls0 HT2.out ?_
     intro w2 h2
     replace HS:=lH (HS.out.step h2)
     clear h2 c9 m4 cI
     obtain ⟨VE,hVE⟩:∃ VE,VE = V ++ E:=⟨_,rfl⟩
     rw [<- hVE] at HST t1 t2
     have hVE2:=hVE.symm
     clear hVE
     go_wp2_with fail
     go_roundw
     case rel => exact ⟨a + 1,VE,by go_num,rfl,by omega,HST,HS⟩
     case measure => (simp [intOf] <;> omega)
   · obtain rfl:a = x.k.length:=by omega
     have hV2:=hV.out
     rw [List.take_length,HDD.out,<- HBD.out] at hV2
     have hVs:V.size = bd.length:=by rw [hV2,size_bs]
     obtain ⟨X,hX⟩:∃ X,X = bs (Head.encL C T xb V.size):=⟨_,rfl⟩
     have hX7:=(Head.encL_len C T xb V.size)
     have hXs:X.size = (Head.encL C T xb V.size).length:=by rw [hX,size_bs]
     have c5:=RefHead.renc_ok C T V.size xb C3 T3 (by omega) X hX
     have hfin:X ++ V = R:=by rw [HR.out,hX,hV2,size_bs]
     have hXl:X.size <= 100:=by omega
     have w1:¬ 9223372036854775807 < X.size + V.size:=by omega
     have t1:decide ((X.size:Int) + (V.size:Int) <= 65535) = true:=decide_eq_true (by omega)
     have t2:decide (X.size + V.size <= 65535) = true:=decide_eq_true (by omega)
     have hw:IntKind.i64.wrap ((X.size:Int) + (V.size:Int)) = (X.size:Int) + (V.size:Int):=IntWalk.i64_in _ (by omega)
     have hN:=n3step HS.out HN
     have HF:=lH hfin
     have hVb:V.size <= 65000:=by omega
     clear hX hX7 hXs hV2 hfin C3 T3 hbl hVs
     go_wp2_with fail
     obtain ⟨_,z0,z1,z2⟩:=n3all hN
     go_region_held3 (fun W' => Hid (N3 w b (o + i * 5) (.int .i64 (C:Int)) (.int .i64 (T:Int)) (.bool xb) W') /\ W'.cell? ⟨b,o + i * 5,none⟩ = some (.int .i64 (C:Int)) /\ W'.cell? ⟨b,o + i * 5 + 1,none⟩ = some (.int .i64 (T:Int)) /\ W'.cell? ⟨b,o + i * 5 + 2,none⟩ = some (.bool xb))
       (first | exact n3all (by assumption) | exact n3all (n3drew (by assumption)))
       (first | (go_at_call 131; refine (c5 _).mono ?_; rintro e w5 ⟨rfl,h5⟩; have hN5:Hid (N3 w b (o + i * 5) (.int .i64 (C:Int)) (.int .i64 (T:Int)) (.bool xb) w5):=n3step h5 (by first | assumption | exact n3drew (by assumption)); clear h5))
     all_goals
       clear z0 z1 z2 m4
       go_wp2_with fail
       go_ret2
       exact ⟨by rw [<- HF.out]; rfl,hN5.out.since⟩
theorem bytes_all (N:List Nd) (Bs:List (List UInt8)) (S:List UInt8) (hW:Wr N Bs S) (hS:S.length <= 65000) (hn1:N.length <= 1000):∀ m i,N.length - i <= m -> BytR N Bs i:=by
 intro m
 induction m with
 | zero =>
   intro i h x b hx
   have:=(List.getElem?_eq_some_iff.1 hx).1
   omega
 | succ m ih => exact fun i h => bytes_step N Bs S hW hS hn1 i (fun j h1 h2 => ih j (by omega))
theorem bytes_root (N:List Nd) (Bs:List (List UInt8)) (S:List UInt8) (hW:Wr N Bs S) (hS:S.length <= 65000) (hn1:N.length <= 1000):RdT 105 N (fun v => #[v,.int .i64 0]) (.tuple #[.string (bs S),.bool true]):=by
 obtain ⟨y,hy⟩:∃ y,N[0]? = some y:=⟨_,List.getElem?_eq_getElem hW.pos⟩
 have h1:=bytes_all N Bs S hW hS hn1 _ 0 (Nat.le_refl _) y _ hy (hW.body 0 y hy).1
 rw [<- elAt_eq hy (hW.body 0 y hy).1,hW.root] at h1
 exact h1
theorem renc_yes (N:List Nd) (R:ByteArray) (c1:RdT 104 N (fun v => #[v]) (.bool true)) (c2:RdT 105 N (fun v => #[v,.int .i64 0]) (.tuple #[.string R,.bool true])):RdT 58 N (fun v => #[v]) (.tuple #[.string R,.int .i64 0]):=by
 intro w v h
 have HS:=lH (Since.refl w)
 have HT:=lH h
 clear h
 go_enter Tryz.func58,Tryz.ntmps58
 go_wp2_with fail
 refine c1.calls0 HT.out ?_
 intro w1 h1
 replace HS:=lH (HS.out.step h1)
 replace HT:=lH (HT.out.since h1)
 clear h1
 go_wp2_with fail
 refine c2.calls0 HT.out ?_
 intro w2 h2
 replace HS:=lH (HS.out.step h2)
 clear h2
 go_wp2_with fail
 go_ret2
 exact ⟨rfl,HS.out⟩
end Tree
namespace Tlv
open Span Flt Rw
theorem at_store {P:Program} {ops:Array Oper} {Q:Exit -> Act -> World -> Prop} {o:Oper} {rest:List Oper} {a:Act} {w:World} {ty:TypeId} {x y:Operand} (_:o.op = .store ty x y) (h:wpList P ops Q (o :: rest) a w):wpList P ops Q (o :: rest) a w:=h
theorem rows_drop {w:World} {base:Nat} {r:Row} {rs:List Row} (h:Rw.Rows w base (r :: rs)):Rw.Rows w base rs:=⟨fun x hx => h.own x (by simp [hx]),(List.pairwise_cons.1 h.apart).2⟩
theorem rows_dropN {w:World} {base:Nat} (A:List Row) {rs:List Row} (h:Rw.Rows w base (A ++ rs)):Rw.Rows w base rs:=⟨fun x hx => h.own x (by simp [hx]),(List.pairwise_append.1 h.apart).2.1⟩
theorem rows_ins {w:World} {base:Nat} (A B:List Row) (h:Rw.Rows w base (A ++ B)) (e:TypeId) (k:Nat):Rw.Rows w base (A ++ ⟨e,k,.slice none 0 0,0,[]⟩ :: B):=by
 obtain ⟨ho,ha⟩:=h
 rw [List.pairwise_append] at ha
 obtain ⟨a1,a2,a3⟩:=ha
 refine ⟨fun r hr => ?_, ?_⟩
 · rcases List.mem_append.1 hr with hr | hr
   · exact ho r (by simp [hr])
   · rcases List.mem_cons.1 hr with rfl | hr
     · exact World.ownsRow_nil w base e k
     · exact ho r (by simp [hr])
 · rw [List.pairwise_append,List.pairwise_cons]
   refine ⟨a1,⟨fun b _ => Apart.none,a2⟩,fun a ha b hb => ?_⟩
   rcases List.mem_cons.1 hb with rfl | hb
   · exact Apart.none.symm
   · exact a3 a ha b hb
def lone (t:TypeId) (g:Nat) (C:List Value):Row:=⟨t,C.length,.slice (some ⟨g,0,none⟩) 1 1,1,C⟩
theorem rows_push {w:World} {base:Nat} {rs:List Row} (h:Rw.Rows w base rs) (hb:base <= w.heap.size) (C:List Value) (t:TypeId):Rw.Rows (w.alloc (.cells C.toArray t)) base (lone t w.heap.size C :: rs):=by
 obtain ⟨ho,ha⟩:=h
 refine ⟨fun r hr => ?_,List.pairwise_cons.2 ⟨fun r hr g hg => ?_,ha⟩⟩
 · rcases List.mem_cons.1 hr with rfl | hr
   · refine ⟨by simp [lone],.inr ⟨w.heap.size,1,C.toArray,rfl,hb,heap_alloc_new w _,Nat.le_refl _,by decide,by simp [lone], ?_⟩⟩
     simp [lone]
   · exact World.ownsRow.alloc (ho r hr) _
 · intro h2
   have h3:g = w.heap.size:=by cases hg; rfl
   have h4:=(World.ownsRow.lt (ho r hr) g h2).2
   omega
theorem lone_heap {w:World} {base:Nat} {t:TypeId} {g:Nat} {C:List Value} (h:(lone t g C).own w base):w.heap[g]? = some (.cells C.toArray t (0,0)):=by
 rcases h.2 with ⟨h0,_⟩ | ⟨g',cap,cur,hv,hb,hg,hc,hm,hs,ht⟩
 · cases h0
 · cases hv
   rw [hg]
   congr 2
   apply Array.ext'
   have h1:cur.toList.length = 1 * C.length:=by simpa [lone] using hs
   have h2:cur.toList.take (1 * C.length) = C:=ht
   rw [<- h1,List.take_length] at h2
   exact h2
theorem lone_cell {w:World} {base:Nat} {t:TypeId} {g:Nat} {C:List Value} (h:(lone t g C).own w base) (i:Nat) (v:Value) (hv:C[i]? = some v):w.cell? ⟨g,i,none⟩ = some v /\ w.frozen? ⟨g,i,none⟩ = false:=by
 have h1:=lone_heap h
 refine ⟨?_,frozen_of_row _ _ i _ _ h1⟩
 unfold World.cell?
 rw [h1]
 simpa using hv
def RR (g:Nat) (s:ByteArray) (tv fv ov:Value) (ns:List (Nd × Value)) (fr to:List Nat) (X:List Row):List Row :=
 lone 147 g [.string s,tv,fv,ov] :: ⟨87,5,tv,ns.length,ns.flatMap nc⟩ :: ⟨3,1,fv,fr.length,fr.map (fun i:Nat => Value.int .i64 (i:Int))⟩ :: ⟨3,1,ov,to.length,to.map (fun i:Nat => Value.int .i64 (i:Int))⟩ :: (ns.map kr ++ X)
structure RS (w0:World) (g:Nat) (s:ByteArray) (tv fv ov:Value) (ns:List (Nd × Value)) (fr to:List Nat) (X:List Row) (W:World):Prop where
 rows:Rw.Rows W w0.heap.size (RR g s tv fv ov ns fr to X)
 since:Since w0 W
section
variable {w0:World} {g:Nat} {s:ByteArray} {tv fv ov:Value} {ns:List (Nd × Value)} {fr to:List Nat} {X:List Row} {W:World}
theorem RS.step {W':World} (h:RS w0 g s tv fv ov ns fr to X W) (hb:Since W W'):RS w0 g s tv fv ov ns fr to X W':=⟨h.rows.since hb,h.since.step hb⟩
theorem RS.cells (h:RS w0 g s tv fv ov ns fr to X W):W.cell? ⟨g,0,none⟩ = some (.string s) /\ W.cell? ⟨g,1,none⟩ = some tv /\ W.cell? ⟨g,2,none⟩ = some fv /\ W.cell? ⟨g,3,none⟩ = some ov /\ ∀ i,W.frozen? ⟨g,i,none⟩ = false:=by
 have h1:=h.rows.own (lone 147 g [.string s,tv,fv,ov]) (by unfold RR; simp)
 have h2:=lone_heap h1
 exact ⟨(lone_cell h1 0 _ rfl).1,(lone_cell h1 1 _ rfl).1,(lone_cell h1 2 _ rfl).1,(lone_cell h1 3 _ rfl).1,fun i => frozen_of_row _ _ i _ _ h2⟩
theorem RS.tvo (h:RS w0 g s tv fv ov ns fr to X W):W.ownsRow w0.heap.size 87 5 tv ns.length (ns.flatMap nc):=h.rows.own ⟨87,5,tv,ns.length,ns.flatMap nc⟩ (by unfold RR; simp)
theorem RS.push (h:RS w0 g s tv fv ov ns fr to X W) (C:List Value) (t:TypeId):RS w0 g s tv fv ov ns fr to (lone t W.heap.size C :: X) (W.alloc (.cells C.toArray t)):=by
 refine ⟨?_,h.since.alloc _⟩
 have h1:=rows_push h.rows (Below.size h.since) C t
 obtain ⟨ho,ha⟩:=h1
 have hp:(lone t W.heap.size C :: RR g s tv fv ov ns fr to X).Perm (RR g s tv fv ov ns fr to (lone t W.heap.size C :: X)):=by
   unfold RR
   have h2:(ns.map kr ++ lone t W.heap.size C :: X).Perm (lone t W.heap.size C :: (ns.map kr ++ X)):=List.perm_middle
   refine List.Perm.trans ?_ (((h2.symm.cons _).cons _).cons _ |>.cons _)
   refine List.Perm.trans (List.Perm.swap _ _ _) (List.Perm.cons _ ?_)
   refine List.Perm.trans (List.Perm.swap _ _ _) (List.Perm.cons _ ?_)
   refine List.Perm.trans (List.Perm.swap _ _ _) (List.Perm.cons _ ?_)
   exact List.Perm.swap _ _ _
 exact ⟨fun r hr => ho r (hp.mem_iff.2 hr),(hp.pairwise_iff (fun h => Apart.symm h)).1 ha⟩
theorem RS.pop {x:Row} (h:RS w0 g s tv fv ov ns fr to (x :: X) W):RS w0 g s tv fv ov ns fr to X W:=by
 refine ⟨⟨fun r hr => h.rows.own r ?_, ?_⟩,h.since⟩
 · unfold RR at hr ⊢
   simp only [List.mem_cons,List.mem_append] at hr ⊢
   rcases hr with hr | hr | hr | hr | hr | hr
   · exact .inl hr
   · exact .inr (.inl hr)
   · exact .inr (.inr (.inl hr))
   · exact .inr (.inr (.inr (.inl hr)))
   · exact .inr (.inr (.inr (.inr (.inl hr))))
   · exact .inr (.inr (.inr (.inr (.inr (.inr hr)))))
 · refine List.Pairwise.sublist ?_ h.rows.apart
   unfold RR
   exact (((List.Sublist.append_left (List.sublist_cons_self x X) (ns.map kr)).cons_cons _).cons_cons _).cons_cons _ |>.cons_cons _
theorem RS.others (h:RS w0 g s tv fv ov ns fr to X W):Rw.Rows W w0.heap.size X:=by
 have h1:=h.rows
 unfold RR at h1
 have h2:=rows_drop (rows_drop (rows_drop (rows_drop h1)))
 exact rows_dropN _ h2
end
theorem step_rows {T E:TypeId} {z:Value} {size bytes:Nat} (I:ElemIs T E z size bytes) {ops:Array Oper} {o:Oper} {a:Act} {K:Act -> World -> Prop} {Q:Exit -> Act -> World -> Prop} {E':Prop} (hgd:o.guard = none) (s x:Operand)
   (ho:o.op = .call { callee:=.builtin .append,args:=#[s,x],argTypes:=#[T,T] })
   (w0 w:World) (A B:List Row) (v:Value) (n:Nat) (xs:List Value) (hs:a.eval s = v) (hown:Rw.Rows w w0.heap.size (A ++ ⟨E,size,v,n,xs⟩ :: B)) (hS:Since w0 w)
   (g0:Nat) (ys:List Value) (c m:Nat) (hx:a.eval x = .slice (some ⟨g0,0,none⟩) m c) (hc:∀ j u,ys[j]? = some u -> w.cell? ⟨g0,j,none⟩ = some u) (hl:ys.length = m * size) (hm:0 < m) (h1:∀ u ∈ ys,u.oneCell' = true) (hn:n + m <= maxLen) (hby:(n + m) * bytes <= 140737488355328)
   (h:∀ v' w',Rw.Rows w' w0.heap.size (A ++ ⟨E,size,v',n + m,xs ++ ys⟩ :: B) -> Since w0 w' -> K (a.put o.dst v') w') :
   if Region.wanted o (yielded ops a.tmps) = true then Oper.wp Tryz.prog o a w K Q else E':=by
 obtain ⟨ht,hi,hz,hs0⟩:=I
 obtain ⟨i,hi1,hi2⟩:=Option.map_eq_some_iff.1 hi
 simp only [Prod.mk.injEq] at hi2
 have hown1:=hown.get
 refine step_append_lies w hgd s x T ho w0.heap.size E i z size bytes ht hi1 hi2.1 hi2.2.1 hi2.2.2 hz hs0 v n xs hs hown1 ⟨g0,0,none⟩ m c ys hx hl ?_ h1 hm hn hby (Below.size hS) w.heap.size rfl ?_
 · intro j u hu
   have hadd:(⟨g0,0,none⟩:Addr).add j = ⟨g0,j,none⟩:=by unfold Addr.add; split <;> simp_all
   rw [hadd]
   exact hc j u hu
 · intro g cap w' hown' hg hat hlt
   refine h _ w' (hown.turn ⟨E,size,_,n + m,xs ++ ys⟩ hown' fun u hu hap => ⟨?_, ?_⟩) (Below.grown hS hg (Below.size hS) (fun k hk => (hown1.lt k hk).1))
   · refine World.ownsRow.kept hu hg ?_
     cases hub:u.v.ownBlock with
     | none => exact Or.inl rfl
     | some b => exact Or.inr fun e => hap b e.symm hub
   · intro b h2 h3
     cases h2
     rcases hat with hat | hat
     · exact hap _ hat h3
     · have h4:g < w.heap.size:=(World.ownsRow.lt hu _ h3).2
       omega
section
variable {w0:World} {g:Nat} {s:ByteArray} {tv fv ov:Value} {ns:List (Nd × Value)} {fr to:List Nat} {X:List Row} {W:World}
theorem rsD (h:Hid (RS w0 g s tv fv ov ns fr to X W)):Hid (RS w0 g s tv fv ov ns fr to X W.drew):=lH (h.out.step (Since.drew (Since.refl _)))
theorem rsA (o:Obj) (h:Hid (RS w0 g s tv fv ov ns fr to X W)):Hid (RS w0 g s tv fv ov ns fr to X (W.alloc o)):=lH (h.out.step (Since.alloc (Since.refl _) o))
theorem en_s {gN:Nat} {a b c d e:Value} (h:Hid (RS w0 g s tv fv ov ns fr to (lone 87 gN [a,b,c,d,e] :: X) W)):Hid (RS w0 g s tv fv ov ns fr to (lone 87 gN [a,b,c,d,e] :: X) W) /\ W.cell? ⟨g,1,none⟩ = some tv /\
   W.cell? ⟨gN,0,none⟩ = some a /\ W.cell? ⟨gN,1,none⟩ = some b /\ W.cell? ⟨gN,2,none⟩ = some c /\ W.cell? ⟨gN,3,none⟩ = some d /\ W.cell? ⟨gN,4,none⟩ = some e:=by
 have h1:=h.out.others.own (lone 87 gN [a,b,c,d,e]) (by simp)
 exact ⟨h,h.out.cells.2.1,(lone_cell h1 0 _ rfl).1,(lone_cell h1 1 _ rfl).1,(lone_cell h1 2 _ rfl).1,(lone_cell h1 3 _ rfl).1,(lone_cell h1 4 _ rfl).1⟩
theorem hd_s {gH:Nat} {a b c d:Value} (h:Hid (RS w0 g s tv fv ov ns fr to (lone 126 gH [a,b,c,d] :: X) W)):Hid (RS w0 g s tv fv ov ns fr to (lone 126 gH [a,b,c,d] :: X) W) /\ W.cell? ⟨g,0,none⟩ = some (.string s) /\
   W.cell? ⟨gH,0,none⟩ = some a /\ W.cell? ⟨gH,1,none⟩ = some b /\ W.cell? ⟨gH,2,none⟩ = some c /\ W.cell? ⟨gH,3,none⟩ = some d:=by
 have h1:=h.out.others.own (lone 126 gH [a,b,c,d]) (by simp)
 exact ⟨h,h.out.cells.1,(lone_cell h1 0 _ rfl).1,(lone_cell h1 1 _ rfl).1,(lone_cell h1 2 _ rfl).1,(lone_cell h1 3 _ rfl).1⟩
theorem RS.lt (h:RS w0 g s tv fv ov ns fr to X W):g < W.heap.size:=(Array.getElem?_eq_some_iff.1 (lone_heap (h.rows.own (lone 147 g [.string s,tv,fv,ov]) (by unfold RR; simp)))).1
theorem RS.ltX {t:TypeId} {gb:Nat} {C:List Value} (h:RS w0 g s tv fv ov ns fr to (lone t gb C :: X) W):gb < W.heap.size:=(Array.getElem?_eq_some_iff.1 (lone_heap (h.others.own (lone t gb C) (by simp)))).1
theorem rsS {W':World} (hb:Since W W') (h:Hid (RS w0 g s tv fv ov ns fr to X W)):Hid (RS w0 g s tv fv ov ns fr to X W'):=lH (h.out.step hb)
theorem alloc_cell (w:World) (C:List Value) (t:TypeId) (j:Nat) (u:Value) (h:C[j]? = some u):(w.alloc (.cells C.toArray t)).cell? ⟨w.heap.size,j,none⟩ = some u:=by
 unfold World.cell?
 rw [heap_alloc_new]
 simpa using h
theorem alloc_cell_at (w:World) (C:List Value) (t:TypeId) (G:Nat) (hG:w.heap.size = G) (j:Nat) (u:Value) (h:C[j]? = some u):(w.alloc (.cells C.toArray t)).cell? ⟨G,j,none⟩ = some u:=by
 subst hG
 exact alloc_cell w C t j u h
theorem lone_base {w:World} {base:Nat} {t:TypeId} {C:List Value} (h:(lone t g C).own w base):base <= g:=by
 rcases h.2 with ⟨h0,_⟩ | ⟨g',cap,cur,hv,hb,_⟩
 · cases h0
 · cases hv; exact hb
theorem rs_node {tv2:Value} {c t:Int} {b:Bool} {d:ByteArray} (hQ:Rw.Rows W w0.heap.size ([lone 147 g [.string s,tv,fv,ov]] ++ ⟨87,5,tv2,ns.length + 1,ns.flatMap nc ++ [.int .i64 c,.int .i64 t,.bool b,.string d,.slice none 0 0]⟩ :: ((RR g s tv fv ov ns fr to X).drop 2))) (hS:Since w0 W) :
   RS w0 g s tv2 fv ov (ns ++ [(⟨c,t,b,d,[]⟩,.slice none 0 0)]) fr to X (W.setCell ⟨g,1,none⟩ tv2):=by
 have hg:=lone_base (hQ.own (lone 147 g [.string s,tv,fv,ov]) (by simp))
 have h1:=Rw.Rows.set (A:=[]) (B:=⟨87,5,tv2,ns.length + 1,ns.flatMap nc ++ [.int .i64 c,.int .i64 t,.bool b,.string d,.slice none 0 0]⟩ :: ((RR g s tv fv ov ns fr to X).drop 2)) (e:=147) (k:=4) (g:=g) (n:=1) (c:=1) (xs:=[.string s,tv,fv,ov]) hQ 1 (by decide) tv2
 refine ⟨?_,Below.setCell (p:=⟨g,1,none⟩) hS hg _⟩
 have h2:=rows_ins (⟨147,4,.slice (some ⟨g,0,none⟩) 1 1,1,[.string s,tv2,fv,ov]⟩ :: ⟨87,5,tv2,ns.length + 1,ns.flatMap nc ++ [.int .i64 c,.int .i64 t,.bool b,.string d,.slice none 0 0]⟩ :: ⟨3,1,fv,fr.length,fr.map (fun i:Nat => Value.int .i64 (i:Int))⟩ :: ⟨3,1,ov,to.length,to.map (fun i:Nat => Value.int .i64 (i:Int))⟩ :: ns.map kr) X h1 3 1
 have e1:RR g s tv2 fv ov (ns ++ [(⟨c,t,b,d,[]⟩,.slice none 0 0)]) fr to X = (⟨147,4,.slice (some ⟨g,0,none⟩) 1 1,1,[.string s,tv2,fv,ov]⟩ :: ⟨87,5,tv2,ns.length + 1,ns.flatMap nc ++ [.int .i64 c,.int .i64 t,.bool b,.string d,.slice none 0 0]⟩ :: ⟨3,1,fv,fr.length,fr.map (fun i:Nat => Value.int .i64 (i:Int))⟩ :: ⟨3,1,ov,to.length,to.map (fun i:Nat => Value.int .i64 (i:Int))⟩ :: ns.map kr) ++ ⟨3,1,.slice none 0 0,0,[]⟩ :: X:=by
   unfold RR
   rw [List.map_append,List.length_append,List.flatMap_append,List.append_assoc]
   show _ = _ :: _ :: _ :: _ :: (ns.map kr ++ _ :: X)
   simp only [List.flatMap_cons,List.flatMap_nil,List.append_nil,List.map_cons,List.map_nil]
   rfl
 rw [e1]
 exact h2
theorem rr_from (g:Nat) (s:ByteArray) (tv fv ov:Value) (ns:List (Nd × Value)) (fr to:List Nat) (X:List Row):RR g s tv fv ov ns fr to X = [lone 147 g [.string s,tv,fv,ov],⟨87,5,tv,ns.length,ns.flatMap nc⟩] ++ ⟨3,1,fv,fr.length,fr.map (fun i:Nat => Value.int .i64 (i:Int))⟩ :: ((RR g s tv fv ov ns fr to X).drop 3):=rfl
theorem rr_to (g:Nat) (s:ByteArray) (tv fv ov:Value) (ns:List (Nd × Value)) (fr to:List Nat) (X:List Row):RR g s tv fv ov ns fr to X = [lone 147 g [.string s,tv,fv,ov],⟨87,5,tv,ns.length,ns.flatMap nc⟩,⟨3,1,fv,fr.length,fr.map (fun i:Nat => Value.int .i64 (i:Int))⟩] ++ ⟨3,1,ov,to.length,to.map (fun i:Nat => Value.int .i64 (i:Int))⟩ :: ((RR g s tv fv ov ns fr to X).drop 4):=rfl
theorem rs_from {fv2:Value} {p:Nat} (h:Rw.Rows W w0.heap.size ([] ++ ⟨147,4,.slice (some ⟨g,0,none⟩) 1 1,1,[Value.string s,tv,fv,ov].set 2 fv2⟩ :: ([⟨87,5,tv,ns.length,ns.flatMap nc⟩] ++ ⟨3,1,fv2,fr.length + 1,fr.map (fun i:Nat => Value.int .i64 (i:Int)) ++ [.int .i64 (p:Int)]⟩ :: ((RR g s tv fv ov ns fr to X).drop 3)))) (hS:Since w0 W) :
   RS w0 g s tv fv2 ov ns (fr ++ [p]) to X W:=by
 refine ⟨?_,hS⟩
 unfold RR
 rw [List.length_append,List.map_append]
 exact h
theorem rs_to {ov2:Value} {p:Nat} {q:Int} (hq:q = (p:Int)) (h:Rw.Rows W w0.heap.size ([] ++ ⟨147,4,.slice (some ⟨g,0,none⟩) 1 1,1,[Value.string s,tv,fv,ov].set 3 ov2⟩ :: ([⟨87,5,tv,ns.length,ns.flatMap nc⟩,⟨3,1,fv,fr.length,fr.map (fun i:Nat => Value.int .i64 (i:Int))⟩] ++ ⟨3,1,ov2,to.length + 1,to.map (fun i:Nat => Value.int .i64 (i:Int)) ++ [.int .i64 q]⟩ :: ((RR g s tv fv ov ns fr to X).drop 4)))) (hS:Since w0 W) :
   RS w0 g s tv fv ov2 ns fr (to ++ [p]) X W:=by
 subst hq
 refine ⟨?_,hS⟩
 unfold RR
 rw [List.length_append,List.map_append]
 exact h
end
end Tlv
namespace Tlv
open Span Flt Rw
theorem app_one_h {T E:TypeId} {z:Value} {bytes:Nat} (I:ElemIs T E z 1 bytes) {ops:Array Oper} {rest:List Oper} {o:Oper} {a:Act} {Q:Exit -> Act -> World -> Prop} (hgd:o.guard = none) (s x:Operand)
   (ho:o.op = .call { callee:=.builtin .append,args:=#[s,x],argTypes:=#[T,T] })
   (w0 wr:World) (H:Nat) (hH:wr.heap.size = H) (v:Value) (n:Nat) (xs:List Value) (hs:a.eval s = v) (hown:wr.ownsRow w0.heap.size E 1 v n xs) (hS:Since w0 wr)
   (y:Value) (hx:a.eval x = .slice (some ⟨H,0,none⟩) 1 1) (h1:y.oneCell' = true) (hn:n <= 1099511627776) (hby:bytes <= 64)
   (h:∀ v' w',w'.ownsRow w0.heap.size E 1 v' (n + 1) (xs ++ [y]) -> Since w0 w' -> KeptBut wr w' v -> wpList Tryz.prog ops Q rest (a.put o.dst v') w') :
   wpList Tryz.prog ops Q (o :: rest) a (wr.alloc (.cells #[y] E)):=by
 subst hH
 refine app_own_k I hgd s x ho w0 wr v n xs hs hown hS #[y] 1 1 hx rfl (fun u hu => by simp at hu; subst hu; exact h1) (by unfold maxLen; omega) (Nat.le_trans (Nat.mul_le_mul (show n + 1 <= 1099511627777 by omega) hby) (by decide)) h
theorem results_c {P:Program} {fn:Func} {p:Tmp} {ty:TypeId} (h:fn.results = #[.cell p ty]) (tmps:Array Value) (w:World) (g:Nat) (t:TypeId) (cs:Array Value) (fr:Nat × Nat) (d:TypeDesc)
   (hp:tmps.getD p undef = .pointer (some ⟨g,0,none⟩)) (hg:w.heap[g]? = some (.cells cs t fr))
   (hu:P.underlying ty = some d) (hd:(match d with | .struct _ | .array _ _ => true | _ => false) = true) (hi:(P.info? ty).map (·.size) = some cs.size) :
   (results fn tmps).run P w = .ok (.agg cs) w:=by
 have hp':tmps[p]?.getD undef = .pointer (some ⟨g,0,none⟩):=by simpa using hp
 simp [results,h,hp',asAddr,run_loadVar_row w g t ty cs fr d hg hu hd hi]
theorem faulty_mak (c p:Int):Mak 92 #[.int .i64 c,.int .i64 p] (.agg (F2 c p)):=by
 intro w
 have hr0:Hid (HR w w.heap.size (F2 0 0) 65 (w.alloc (.cells (F2 0 0) 65))):=lH ⟨heap_alloc_new w _⟩
 have HS:Hid (Since w (w.alloc (.cells (F2 0 0) 65))):=lH ((Since.refl w).alloc _)
 unfold F2 at hr0 HS
 go_enter Tryz.func92,Tryz.ntmps92
 go_wp2_with (refine wpList_store_row rfl 65 _ _ rfl w.heap.size (F2 c p) (by rfl) (by rfl) _ _ hr0.out.row (f2_info c p) rfl (f2_one c p) ?_)
 exact bodyPost_ret (v:=.agg (F2 c p)) (results_c Tryz.results92 _ _ _ _ _ _ _ rfl (setRow_heap _ _ _ _ _ _ hr0.out.row) Tryz.underlying65 rfl (f2_info c p)) rfl ⟨rfl,below_setRow HS.out (Nat.le_refl _) _⟩
set_option maxHeartbeats 8000000 in
theorem rpieces_t (s:ByteArray) (hs:s.size <= 65535) (T:Except (Nat × Nat) (List ByteArray)) (hT:pcsF s (s.size + 1) 0 = T) (w:World):Calls Tryz.prog 48 #[.string s] w (PPost w T):=by
 have h1:decide ((65535:Int) < (s.size:Int)) = false:=decide_eq_false (by omega)
 have h2:decide (65535 < s.size) = false:=decide_eq_false (by omega)
 have HT:Hid (prepE [] (pcsF s (s.size + 1) 0) = T):=lH (by rw [hT]; cases T <;> rfl)
 have HR0:Hid ((w.alloc (.cells #[.int .i64 0,.int .i64 0] 65)).ownsRow (w.alloc (.cells #[.int .i64 0,.int .i64 0] 65)).heap.size 9 1 (.slice none 0 0) ([]:List ByteArray).length (([]:List ByteArray).map Value.string)):=lH (World.ownsRow_nil _ _ _ _)
 have HS0:Hid (Since (w.alloc (.cells #[.int .i64 0,.int .i64 0] 65)) (w.alloc (.cells #[.int .i64 0,.int .i64 0] 65))):=lH (Since.refl _)
 clear hT
 go_enter Tryz.func48,Tryz.ntmps48
 go_wp2_with fail
 go_loopw [4,5] (fun lv rv wr => ∃ (p f:Nat) (L:List ByteArray) (A:Option Addr) (cc:Nat),p <= s.size /\ lv = .slice A L.length cc /\ rv = .int .i64 (p:Int) /\ Hid (L.length <= p) /\ Hid (s.size - p < f) /\ Hid (prepE L (pcsF s f p) = T) /\ Hid (wr.ownsRow (w.alloc (.cells #[.int .i64 0,.int .i64 0] 65)).heap.size 9 1 lv L.length (L.map Value.string)) /\ Hid (Since (w.alloc (.cells #[.int .i64 0,.int .i64 0] 65)) wr)) (fun lv _ _ => s.size + 1 - lenOf lv)
 case atStart => exact ⟨0,s.size + 1,[],none,0,Nat.zero_le _,rfl,rfl,lH (Nat.zero_le _),lH (by omega),HT,HR0,HS0⟩
 case round =>
   clear HT HR0 HS0
   obtain ⟨p,f,L,A,cc,hp,rfl,rfl,HLp,HF,HT,HRo,HS⟩:=hrel
   obtain ⟨f,rfl⟩:∃ f',f = f' + 1:=⟨f - 1,by have:=HF.out; omega⟩
   by_cases hlt:p < s.size
   · have t1:decide ((p:Int) < (s.size:Int)) = true:=decide_eq_true (by omega)
     have t2:decide (p < s.size) = true:=decide_eq_true hlt
     have hpn:¬ s.size <= p:=by omega
     have i1:(p:Int) <= (s.size:Int):=by omega
     have i2:(0:Int) <= (p:Int):=by omega
     obtain ⟨hh,k,x,hq⟩:∃ hh k x,Head.dec (s.extract p s.size).data.toList = (hh,k,x):=⟨_,_,_,rfl⟩
     have c3:=RefHead.rd_mak (s.extract p s.size) (by rw [ByteArray.size_extract]; omega) _ rfl
     rw [hq] at c3
     unfold Head.decV Head.hdV at c3
     dsimp only at c3
     by_cases hx:x ≠ 0
     · obtain ⟨X,hX⟩:∃ X:Int,X = (x:Int):=⟨_,rfl⟩
       rw [<- hX] at c3
       have hX0:(X != 0) = true:=by rw [bne_iff_ne]; omega
       have hW:∀ w',Since w w' -> PPost w T (.returned (.tuple #[.slice none 0 0,.agg (F2 X (p:Int))])) w':=by
         intro w' h
         rw [<- HT.out,pcs_bad s f p L hpn hh k x hq hx,hX]
         exact ⟨rfl,h⟩
       have HW:=lH hW
       clear hW hX hx hq HT HF HLp HRo
       go_wp2_with fail
       refine c3.calls0 ?_
       intro w1 h1
       have HS1:=lH ((HS.out.step h1).alloc (.cells #[.int .i64 (hh.c:Int),.int .i64 (hh.t:Int),.bool hh.b,.int .i64 (hh.n:Int)] 126))
       clear h1
       go_wp2_with fail
       refine (faulty_mak X (p:Int)).calls0 ?_
       intro w2 h2
       have hr0:=lH (HR.step (w:=w) ⟨heap_alloc_new w (.cells #[.int .i64 0,.int .i64 0] 65)⟩ (HS1.out.step h2))
       have HSw:=lH ((Since.alloc (Since.refl w) _).step (HS1.out.step h2))
       clear h2
       go_wp2_with (refine wpList_store_row rfl 65 _ _ rfl w.heap.size (F2 X (p:Int)) (by rfl) (by rfl) _ _ hr0.out.row (f2_info X (p:Int)) rfl (f2_one X (p:Int)) ?_)
       exact bodyPost_ret (v:=.tuple #[.slice none 0 0,.agg (F2 X (p:Int))]) (results_t_cell Tryz.results48 _ _ _ _ _ _ _ _ rfl rfl (setRow_heap _ _ _ _ _ _ hr0.out.row) Tryz.underlying65 rfl (f2_info X (p:Int))) rfl (HW.out _ (below_setRow HSw.out (Nat.le_refl _) _))
     obtain rfl:x = 0:=by omega
     obtain ⟨g1,g2,g3,g4,g5⟩:=Head.enc_dec _ _ _ hq
     have gl:(Head.encL hh.c hh.t hh.b hh.n).length = k:=by rw [g5,List.length_take]; omega
     have gk:=(Head.encL_len hh.c hh.t hh.b hh.n).1
     have g2':2 <= k:=by
       rw [<- gl]
       unfold Head.encL Head.tagL Head.lenL Head.seg
       simp only [List.length_append]
       split <;> (try split) <;> (try split) <;> (try split) <;> (try split) <;> simp
     obtain ⟨N,hN⟩:∃ N:Int,N = (hh.n:Int):=⟨_,rfl⟩
     obtain ⟨C,hC⟩:∃ C:Int,C = (hh.c:Int):=⟨_,rfl⟩
     obtain ⟨U,hU⟩:∃ U:Int,U = (hh.t:Int):=⟨_,rfl⟩
     have hw1:IntKind.i64.wrap ((p:Int) + (k:Int)) = (p:Int) + (k:Int):=IntWalk.i64_in _ (by omega)
     by_cases hf:s.size - p < k + hh.n
     · have hW:∀ w',Since w w' -> PPost w T (.returned (.tuple #[.slice none 0 0,.agg (F2 5 (p:Int))])) w':=by
         intro w' h
         rw [<- HT.out,pcs_far s f p L hpn hh k hq hf]
         exact ⟨rfl,h⟩
       have HW:=lH hW
       obtain ⟨Q,hQ⟩:∃ Q:Int,Q = (p:Int) + (k:Int):=⟨_,rfl⟩
       obtain ⟨Z,hZ⟩:∃ Z:Int,Z = Q + N:=⟨_,rfl⟩
       have hw2:IntKind.i64.wrap Z = Z:=IntWalk.i64_in _ (by omega)
       have t5:decide ((s.size:Int) < Z) = true:=decide_eq_true (by omega)
       rw [<- hC,<- hU,<- hN] at c3
       rw [<- hQ] at hw1
       clear hW hx hq HT HF HLp HRo g1 g2 g3 g4 g5 gl gk g2' hf hN hC hU
       have HQ:=lH hQ
       have HZ:=lH hZ
       go_wp2_with fail
       refine c3.calls0 ?_
       intro w1 h1
       have HS1:=lH ((HS.out.step h1).alloc (.cells #[.int .i64 C,.int .i64 U,.bool hh.b,.int .i64 N] 126))
       have hp:=lH (hb_new w1 KT trivial #[.int .i64 C,.int .i64 U,.bool hh.b,.int .i64 N] 126)
       have m3:=hp.out.cell 3 _ rfl
       clear h1
       rw [hZ,hQ] at hw2 t5
       rw [hQ] at hw1
       clear hQ hZ
       go_wp2_with fail
       refine (faulty_mak 5 (p:Int)).calls0 ?_
       intro w2 h2
       have hr0:=lH (HR.step (w:=w) ⟨heap_alloc_new w (.cells #[.int .i64 0,.int .i64 0] 65)⟩ (HS1.out.step h2))
       have HSw:=lH ((Since.alloc (Since.refl w) _).step (HS1.out.step h2))
       clear h2
       go_wp2_with (refine wpList_store_row rfl 65 _ _ rfl w.heap.size (F2 5 (p:Int)) (by rfl) (by rfl) _ _ hr0.out.row (f2_info 5 (p:Int)) rfl (f2_one 5 (p:Int)) ?_)
       exact bodyPost_ret (v:=.tuple #[.slice none 0 0,.agg (F2 5 (p:Int))]) (results_t_cell Tryz.results48 _ _ _ _ _ _ _ _ rfl rfl (setRow_heap _ _ _ _ _ _ hr0.out.row) Tryz.underlying65 rfl (f2_info 5 (p:Int))) rfl (HW.out _ (below_setRow HSw.out (Nat.le_refl _) _))
     obtain ⟨e2,he2⟩:∃ e2,e2 = p + (k + hh.n):=⟨_,rfl⟩
     obtain ⟨D,hD⟩:∃ D,D = s.extract p e2:=⟨_,rfl⟩
     have HT2:Hid (prepE (L ++ [D]) (pcsF s f e2) = T):=lH (by rw [<- HT.out,pcs_one s f p L hpn hh k hq hf,hD,he2])
     have HL2:Hid ((L ++ [D]).length <= e2):=lH (by rw [List.length_append,List.length_singleton]; have:=HLp.out; omega)
     have HF2:Hid (s.size - e2 < f):=lH (by have:=HF.out; omega)
     have HE2:Hid (e2 <= s.size):=lH (by omega)
     have hL9:L.length <= 1099511627776:=by have:=HLp.out; omega
     have HM:Hid (L.length + 1 <= s.size):=lH (by have:=HLp.out; omega)
     have hw2:IntKind.i64.wrap ((p:Int) + (k:Int) + N) = (e2:Int):=by rw [show (p:Int) + (k:Int) + N = (e2:Int) by omega]; exact IntWalk.i64_in _ (by omega)
     have t5:decide ((s.size:Int) < (e2:Int)) = false:=decide_eq_false (by omega)
     have t6:decide (s.size < e2) = false:=decide_eq_false (by omega)
     have i3:(p:Int) <= (e2:Int):=by omega
     have i4:(e2:Int) <= (s.size:Int):=by omega
     have i5:(0:Int) <= (e2:Int):=by omega
     have hD':=lH hD
     rw [<- hC,<- hU,<- hN] at c3
     clear HT HF HLp hq hx hf g1 g2 g3 g4 g5 gl gk g2' he2 hD hN hC hU
     go_wp2_with fail
     refine c3.calls0 ?_
     intro w1 h1
     have hW9:=lH (show Since wr w1 from h1)
     have HS1:=lH ((HS.out.step h1).alloc (.cells #[.int .i64 C,.int .i64 U,.bool hh.b,.int .i64 N] 126))
     have HR1:=lH (World.ownsRow.alloc (Att.row_since HRo.out h1) (.cells #[.int .i64 C,.int .i64 U,.bool hh.b,.int .i64 N] 126))
     have hp:=lH (hb_new w1 KT trivial #[.int .i64 C,.int .i64 U,.bool hh.b,.int .i64 N] 126)
     have m3:=hp.out.cell 3 _ rfl
     clear h1 HS hp
     go_wp2_with (at_builtin; refine app_one_h elemS rfl _ _ (by rfl) (w.alloc (.cells #[.int .i64 0,.int .i64 0] 65)) (w1.alloc (.cells #[.int .i64 C,.int .i64 U,.bool hh.b,.int .i64 N] 126)) (w1.heap.size + 1) (by simp) _ L.length _ (by rfl) HR1.out HS1.out (.string (s.extract p e2)) (by rfl) rfl hL9 (by decide) ?_; intro v2 w2 hO hS2 hk9; obtain ⟨A2,c9,rfl⟩:∃ A c,v2 = .slice A (L.length + 1) c:=own_any hO; have HO:=lH hO; have HS2:=lH hS2; have k3:=(hk9.cell (p:=⟨w1.heap.size,3,none⟩) (by simp) (own_lt HRo.out (Below.size hW9.out))).trans m3; clear hO hS2 m3 hk9)
     go_round
     case rel => exact ⟨e2,f,L ++ [D],A2,c9,HE2.out,by rw [List.length_append]; rfl,rfl,HL2,HF2,HT2,lH (by rw [List.length_append,List.map_append,hD'.out]; exact HO.out),HS2⟩
     case measure => show s.size + 1 - (L.length + 1) < s.size + 1 - L.length; have:=HM.out; omega
   · have t1:decide ((p:Int) < (s.size:Int)) = false:=decide_eq_false (by omega)
     have t2:decide (p < s.size) = false:=decide_eq_false hlt
     have HOK:Hid (T = .ok L):=lH (by rw [<- HT.out]; exact pcs_end s f p L (by omega))
     have hr0:=lH (HR.step (w:=w) ⟨heap_alloc_new w (.cells #[.int .i64 0,.int .i64 0] 65)⟩ HS.out)
     have HSw:=lH ((Since.alloc (Since.refl w) _).step HS.out)
     clear HT HF HLp
     go_wp2_with (refine wpList_store_row rfl 65 _ _ rfl w.heap.size (F2 0 0) (by rfl) (by rfl) _ _ hr0.out.row (f2_info 0 0) rfl (f2_one 0 0) ?_)
     have hself:wr.setRow w.heap.size (F2 0 0) = wr:=setRow_self _ _ _ _ _ hr0.out.row
     rw [hself]
     refine bodyPost_ret (v:=.tuple #[.slice A L.length cc,.agg (F2 0 0)]) (results_t_cell Tryz.results48 _ _ _ _ _ _ _ _ rfl rfl hr0.out.row Tryz.underlying65 rfl (f2_info 0 0)) rfl ?_
     rw [HOK.out]
     exact ⟨_,rfl,strs_own HRo.out,HSw.out⟩
end Tlv
end Go.Proofs.YtpanhhjkecebkaaGreat
