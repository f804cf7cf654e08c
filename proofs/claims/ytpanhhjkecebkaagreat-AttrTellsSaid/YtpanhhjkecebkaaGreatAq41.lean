import Derived.Test.YtpanhhjkecebkaaGreatAq40
set_option maxRecDepth 100000
namespace Go.Proofs.YtpanhhjkecebkaaGreat
open Go.RowKit
namespace Tlv
open Span Flt Rw
def pcsF (s:ByteArray):Nat -> Nat -> Except (Nat × Nat) (List ByteArray)
 | 0,p => .error (5,p)
 | f + 1,p => if s.size <= p then .ok [] else
   match Head.dec (s.extract p s.size).data.toList with
   | (h,k,x) => if x ≠ 0 then .error (x,p) else if s.size - p < k + h.n then .error (5,p) else
     match pcsF s f (p + (k + h.n)) with
     | .error y => .error y
     | .ok l => .ok (s.extract p (p + (k + h.n)) :: l)
def prepE (L:List ByteArray):Except (Nat × Nat) (List ByteArray) -> Except (Nat × Nat) (List ByteArray)
 | .error y => .error y
 | .ok l => .ok (L ++ l)
def pcsV (s:ByteArray):Nat × Nat × List ByteArray :=
 if 65535 < s.size then (4,0,[]) else
 match pcsF s (s.size + 1) 0 with
 | .error (c,p) => (c,p,[])
 | .ok l => (0,0,l)
theorem pcs_end (s:ByteArray) (f p:Nat) (L:List ByteArray) (h:s.size <= p):prepE L (pcsF s (f + 1) p) = .ok L:=by
 unfold pcsF
 rw [if_pos h]
 show Except.ok (L ++ []) = _
 rw [List.append_nil]
theorem pcs_bad (s:ByteArray) (f p:Nat) (L:List ByteArray) (h:¬ s.size <= p) (hh:Head.Hd) (k x:Nat) (hq:Head.dec (s.extract p s.size).data.toList = (hh,k,x)) (hx:x ≠ 0):prepE L (pcsF s (f + 1) p) = .error (x,p):=by
 unfold pcsF
 rw [if_neg h,hq]
 dsimp only
 rw [if_pos hx]
 rfl
theorem pcs_far (s:ByteArray) (f p:Nat) (L:List ByteArray) (h:¬ s.size <= p) (hh:Head.Hd) (k:Nat) (hq:Head.dec (s.extract p s.size).data.toList = (hh,k,0)) (hx:s.size - p < k + hh.n):prepE L (pcsF s (f + 1) p) = .error (5,p):=by
 unfold pcsF
 rw [if_neg h,hq]
 dsimp only
 rw [if_neg (by decide),if_pos hx]
 rfl
theorem pcs_one (s:ByteArray) (f p:Nat) (L:List ByteArray) (h:¬ s.size <= p) (hh:Head.Hd) (k:Nat) (hq:Head.dec (s.extract p s.size).data.toList = (hh,k,0)) (hx:¬ s.size - p < k + hh.n):prepE L (pcsF s (f + 1) p) = prepE (L ++ [s.extract p (p + (k + hh.n))]) (pcsF s f (p + (k + hh.n))):=by
 conv => lhs; unfold pcsF
 rw [if_neg h,hq]
 dsimp only
 rw [if_neg (by decide),if_neg hx]
 cases pcsF s f (p + (k + hh.n)) with
 | error y => rfl
 | ok l =>
   show Except.ok (L ++ (_ :: l)) = Except.ok ((L ++ [_]) ++ l)
   rw [List.append_assoc]
   rfl
def PPost (w:World) (T:Except (Nat × Nat) (List ByteArray)) (e:Ending) (w':World):Prop :=
 match T with
 | .error (c,p) => e = .returned (.tuple #[.slice none 0 0,.agg (F2 (c:Int) (p:Int))]) /\ Since w w'
 | .ok l => ∃ v,e = .returned (.tuple #[v,.agg (F2 0 0)]) /\ StrsS w' v l /\ Since w w'
def PcR (f:Nat) (s:ByteArray) (C P:Int) (L:List ByteArray):Prop:=∀ w,Calls Tryz.prog f #[.string s] w fun e w' => ∃ v,e = .returned (.tuple #[v,.agg (F2 C P)]) /\ StrsS w' v L /\ Since w w'
theorem strs_own {w:World} {base:Nat} {v:Value} {L:List ByteArray} (h:w.ownsRow base 9 1 v L.length (L.map Value.string)):StrsS w v L:=SlR.own h
set_option maxHeartbeats 8000000 in
theorem pieces_t (s:ByteArray) (hs:s.size <= 65535) (T:Except (Nat × Nat) (List ByteArray)) (hT:pcsF s (s.size + 1) 0 = T) (w:World):Calls Tryz.prog 43 #[.string s] w (PPost w T):=by
 have h1:decide ((65535:Int) < (s.size:Int)) = false:=decide_eq_false (by omega)
 have h2:decide (65535 < s.size) = false:=decide_eq_false (by omega)
 obtain ⟨z,hz⟩:∃ z:Nat,z = 0:=⟨_,rfl⟩
 have c0:Ret 82 #[.int .i64 0,.int .i64 (s.size:Int)] (.complex .f64 (fl (z:Int)) (fl (s.size:Int))):=by rw [hz]; exact of_yes 0 s.size ⟨by omega,by omega⟩
 have HT:Hid (prepE [] (pcsF s (s.size + 1) z) = T):=lH (by rw [hz,hT]; cases T <;> rfl)
 have Hz:=lH hz
 have hr0:Hid (HR w w.heap.size (F2 0 0) 65 (w.alloc (.cells (F2 0 0) 65))):=lH ⟨heap_alloc_new w _⟩
 have HR0:Hid ((w.alloc (.cells #[.int .i64 0,.int .i64 0] 65)).ownsRow (w.alloc (.cells #[.int .i64 0,.int .i64 0] 65)).heap.size 9 1 (.slice none 0 0) ([]:List ByteArray).length (([]:List ByteArray).map Value.string)):=lH (World.ownsRow_nil _ _ _ _)
 have HS0:Hid (Since (w.alloc (.cells #[.int .i64 0,.int .i64 0] 65)) (w.alloc (.cells #[.int .i64 0,.int .i64 0] 65))):=lH (Since.refl _)
 clear hz hT
 unfold F2 at hr0
 go_enter Tryz.func43,Tryz.ntmps43
 go_wp2_with fail
 refine c0.calls ?_
 go_wp2_with fail
 go_loopw [4,5] (fun lv rv wr => ∃ (p f:Nat) (L:List ByteArray) (A:Option Addr) (cc:Nat),p <= s.size /\ lv = .slice A L.length cc /\ rv = .complex .f64 (fl (p:Int)) (fl (s.size:Int)) /\ Hid (L.length <= p) /\ Hid (s.size - p < f) /\ Hid (prepE L (pcsF s f p) = T) /\ Hid (wr.ownsRow (w.alloc (.cells #[.int .i64 0,.int .i64 0] 65)).heap.size 9 1 lv L.length (L.map Value.string)) /\ Hid (Since (w.alloc (.cells #[.int .i64 0,.int .i64 0] 65)) wr)) (fun lv _ _ => s.size + 1 - lenOf lv)
 case atStart => exact ⟨z,s.size + 1,[],none,0,by rw [Hz.out]; exact Nat.zero_le _,rfl,rfl,lH (Nat.zero_le _),lH (by omega),HT,HR0,HS0⟩
 case round =>
   clear HT Hz HR0 HS0 hr0
   obtain ⟨p,f,L,A,cc,hp,rfl,rfl,HLp,HF,HT,HRo,HS⟩:=hrel
   have c1:=from_ret p s.size ⟨hp,by omega⟩
   have c2:=to_ret p s.size ⟨hp,by omega⟩
   obtain ⟨f,rfl⟩:∃ f',f = f' + 1:=⟨f - 1,by have:=HF.out; omega⟩
   by_cases hlt:p < s.size
   · have t1:decide ((p:Int) < (s.size:Int)) = true:=decide_eq_true (by omega)
     have t2:decide (p < s.size) = true:=decide_eq_true hlt
     have hpn:¬ s.size <= p:=by omega
     have c3:=meas_mak s p s.size hp (Nat.le_refl _) hs
     obtain ⟨hh,k,x,hq⟩:∃ hh k x,Head.dec (s.extract p s.size).data.toList = (hh,k,x):=⟨_,_,_,rfl⟩
     unfold measV at c3
     rw [hq] at c3
     dsimp only at c3
     by_cases hx:x ≠ 0
     · rw [if_pos hx] at c3
       obtain ⟨X,hX⟩:∃ X:Int,X = (x:Int):=⟨_,rfl⟩
       rw [<- hX] at c3
       have hX0:(X != 0) = true:=by rw [bne_iff_ne]; omega
       have hW:∀ w',Since w w' -> PPost w T (.returned (.tuple #[.slice none 0 0,.agg (F2 X (p:Int))])) w':=by
         intro w' h
         rw [<- HT.out,pcs_bad s f p L hpn hh k x hq hx,hX]
         exact ⟨rfl,h⟩
       have HW:=lH hW
       clear hW hX hx hq HT HF HLp HRo
       go_wp2_with fail
       refine c1.calls ?_
       go_wp2_with fail
       refine c2.calls ?_
       go_wp2_with fail
       refine c3.calls0 ?_
       intro w1 h1
       have HS1:=lH ((HS.out.step h1).alloc (.cells Z4 115))
       clear h1
       have hr0:=lH (HR.step (w:=w) ⟨heap_alloc_new w (.cells #[.int .i64 0,.int .i64 0] 65)⟩ HS1.out)
       have HSw:=lH ((Since.alloc (Since.refl w) _).step HS1.out)
       unfold Z4 at hr0 HSw ⊢
       go_wp2_with fail
       refine c1.calls ?_
       go_wp2_with (refine wpList_store_row rfl 65 _ _ rfl w.heap.size (F2 X (p:Int)) (by rfl) (by rfl) _ _ hr0.out.row (f2_info X (p:Int)) rfl (f2_one X (p:Int)) ?_)
       exact bodyPost_ret (v:=.tuple #[.slice none 0 0,.agg (F2 X (p:Int))]) (results_t_cell Tryz.results43 _ _ _ _ _ _ _ _ rfl rfl (setRow_heap _ _ _ _ _ _ hr0.out.row) Tryz.underlying65 rfl (f2_info X (p:Int))) rfl (HW.out _ (below_setRow HSw.out (Nat.le_refl _) _))
     rw [if_neg hx] at c3
     obtain rfl:x = 0:=by omega
     by_cases hf:s.size - p < k + hh.n
     · rw [if_pos hf] at c3
       obtain ⟨X,hX⟩:∃ X:Int,X = 5:=⟨_,rfl⟩
       rw [<- hX] at c3
       have hX0:(X != 0) = true:=by rw [bne_iff_ne]; omega
       have hW:∀ w',Since w w' -> PPost w T (.returned (.tuple #[.slice none 0 0,.agg (F2 X (p:Int))])) w':=by
         intro w' h
         rw [<- HT.out,pcs_far s f p L hpn hh k hq hf,hX]
         exact ⟨rfl,h⟩
       have HW:=lH hW
       clear hW hX hx hq HT HF HLp HRo hf
       go_wp2_with fail
       refine c1.calls ?_
       go_wp2_with fail
       refine c2.calls ?_
       go_wp2_with fail
       refine c3.calls0 ?_
       intro w1 h1
       have HS1:=lH ((HS.out.step h1).alloc (.cells Z4 115))
       clear h1
       have hr0:=lH (HR.step (w:=w) ⟨heap_alloc_new w (.cells #[.int .i64 0,.int .i64 0] 65)⟩ HS1.out)
       have HSw:=lH ((Since.alloc (Since.refl w) _).step HS1.out)
       unfold Z4 at hr0 HSw ⊢
       go_wp2_with fail
       refine c1.calls ?_
       go_wp2_with (refine wpList_store_row rfl 65 _ _ rfl w.heap.size (F2 X (p:Int)) (by rfl) (by rfl) _ _ hr0.out.row (f2_info X (p:Int)) rfl (f2_one X (p:Int)) ?_)
       exact bodyPost_ret (v:=.tuple #[.slice none 0 0,.agg (F2 X (p:Int))]) (results_t_cell Tryz.results43 _ _ _ _ _ _ _ _ rfl rfl (setRow_heap _ _ _ _ _ _ hr0.out.row) Tryz.underlying65 rfl (f2_info X (p:Int))) rfl (HW.out _ (below_setRow HSw.out (Nat.le_refl _) _))
     rw [if_neg hf] at c3
     obtain ⟨g1,g2,g3,g4,g5⟩:=Head.enc_dec _ _ _ hq
     have gl:(Head.encL hh.c hh.t hh.b hh.n).length = k:=by rw [g5,List.length_take]; omega
     have gk:=(Head.encL_len hh.c hh.t hh.b hh.n).1
     have g2':2 <= k:=by
       rw [<- gl]
       unfold Head.encL Head.tagL Head.lenL Head.seg
       simp only [List.length_append]
       split <;> (try split) <;> (try split) <;> (try split) <;> (try split) <;> simp
     obtain ⟨e2,he2⟩:∃ e2,e2 = p + (k + hh.n):=⟨_,rfl⟩
     have c4:=total_ret k hh.n (by omega) (by omega)
     have c5:=split_ret p s.size (k + hh.n) (by omega) (by omega) e2 he2
     have c6:=cut_pe s p e2 (by omega) (by omega) hs
     obtain ⟨D,hD⟩:∃ D,D = s.extract p e2:=⟨_,rfl⟩
     rw [<- hD] at c6
     have HT2:Hid (prepE (L ++ [D]) (pcsF s f e2) = T):=lH (by rw [<- HT.out,pcs_one s f p L hpn hh k hq hf,hD,he2])
     have HL2:Hid ((L ++ [D]).length <= e2):=lH (by rw [List.length_append,List.length_singleton]; have:=HLp.out; omega)
     have HF2:Hid (s.size - e2 < f):=lH (by have:=HF.out; omega)
     have HE2:Hid (e2 <= s.size):=lH (by omega)
     have hL9:L.length <= 1099511627776:=by have:=HLp.out; omega
     have HM:Hid (L.length + 1 <= s.size):=lH (by have:=HLp.out; omega)
     clear HT HF HLp hq hx hf g1 g2 g3 g4 g5 gl gk g2' he2 hD
     go_wp2_with fail
     refine c1.calls ?_
     go_wp2_with fail
     refine c2.calls ?_
     go_wp2_with fail
     refine c3.calls0 ?_
     intro w1 h1
     have HS1:=lH ((HS.out.step h1).alloc (.cells (H4 (hh.c:Int) (hh.t:Int) hh.b (hh.n:Int)) 115))
     have HR1:=lH (World.ownsRow.alloc (Att.row_since HRo.out h1) (.cells (H4 (hh.c:Int) (hh.t:Int) hh.b (hh.n:Int)) 115))
     unfold H4 at HS1 HR1 ⊢
     clear h1 HRo HS
     go_wp2_with fail
     refine c4.calls ?_
     go_wp2_with fail
     refine c5.calls ?_
     go_wp2_with fail
     refine c6.calls ?_
     generalize w1.alloc (.cells #[.int .i64 (hh.c:Int),.int .i64 (hh.t:Int),.bool hh.b,.int .i64 (hh.n:Int)] 115) = W1 at HS1 HR1 ⊢
     go_wp2_with (at_builtin; refine app_one elemS rfl _ _ (by rfl) (w.alloc (.cells #[.int .i64 0,.int .i64 0] 65)) W1 _ L.length _ (by rfl) HR1.out HS1.out (.string D) (by rfl) rfl hL9 (by decide) ?_; intro v2 w2 hO hS2; obtain ⟨A2,c9,rfl⟩:∃ A c,v2 = .slice A (L.length + 1) c:=own_any hO; have HO:=lH hO; have HS2:=lH hS2; clear hO hS2)
     go_round
     case rel => exact ⟨e2,f,L ++ [D],A2,c9,HE2.out,by rw [List.length_append]; rfl,rfl,HL2,HF2,HT2,lH (by rw [List.length_append,List.map_append]; exact HO.out),HS2⟩
     case measure => show s.size + 1 - (L.length + 1) < s.size + 1 - L.length; have:=HM.out; omega
   · have t1:decide ((p:Int) < (s.size:Int)) = false:=decide_eq_false (by omega)
     have t2:decide (p < s.size) = false:=decide_eq_false hlt
     have HOK:Hid (T = .ok L):=lH (by rw [<- HT.out]; exact pcs_end s f p L (by omega))
     have hr0:=lH (HR.step (w:=w) ⟨heap_alloc_new w (.cells #[.int .i64 0,.int .i64 0] 65)⟩ HS.out)
     have HSw:=lH ((Since.alloc (Since.refl w) _).step HS.out)
     clear HT HF HLp
     go_wp2_with fail
     refine c1.calls ?_
     go_wp2_with fail
     refine c2.calls ?_
     go_wp2_with (refine wpList_store_row rfl 65 _ _ rfl w.heap.size (F2 0 0) (by rfl) (by rfl) _ _ hr0.out.row (f2_info 0 0) rfl (f2_one 0 0) ?_)
     have hself:wr.setRow w.heap.size (F2 0 0) = wr:=setRow_self _ _ _ _ _ hr0.out.row
     rw [hself]
     refine bodyPost_ret (v:=.tuple #[.slice A L.length cc,.agg (F2 0 0)]) (results_t_cell Tryz.results43 _ _ _ _ _ _ _ _ rfl rfl hr0.out.row Tryz.underlying65 rfl (f2_info 0 0)) rfl ?_
     rw [HOK.out]
     exact ⟨_,rfl,strs_own HRo.out,HSw.out⟩
theorem pieces_u (s:ByteArray) (hs:s.size <= 65535) (c p:Nat) (L:List ByteArray) (hv:pcsV s = (c,p,L)):PcR 43 s (c:Int) (p:Int) L:=by
 intro w
 unfold pcsV at hv
 rw [if_neg (by omega)] at hv
 refine (pieces_t s hs _ rfl w).mono ?_
 intro e w' h
 unfold PPost at h
 cases hq:pcsF s (s.size + 1) 0 with
 | error x =>
   obtain ⟨c',p'⟩:=x
   rw [hq] at h hv
   dsimp only at h hv
   cases hv
   exact ⟨_,h.1,StrsS.nil _,h.2⟩
 | ok l =>
   rw [hq] at h hv
   dsimp only at h hv
   cases hv
   exact h
end Tlv
end Go.Proofs.YtpanhhjkecebkaaGreat
namespace Go.Proofs.YtpanhhjkecebkaaGreat
namespace Tlv
open F
end Tlv
end Go.Proofs.YtpanhhjkecebkaaGreat
namespace Go.Proofs.YtpanhhjkecebkaaGreat
namespace Tlv
open Tree
theorem pcs_join (s:ByteArray):∀ (f p:Nat) (L:List ByteArray),p <= s.size -> pcsF s f p = .ok L -> (L.map fun b => b.data.toList).flatten = (s.extract p s.size).data.toList:=by
 intro f
 induction f with
 | zero => intro p L _ h; cases h
 | succ f ih =>
   intro p L hp h
   unfold pcsF at h
   by_cases h0:s.size <= p
   · rw [if_pos h0] at h
     cases h
     have h9:=ext_len s p s.size (Nat.le_refl _)
     symm
     exact List.eq_nil_of_length_eq_zero (by omega)
   · rw [if_neg h0] at h
     obtain ⟨⟨hh,k,x⟩,hq⟩:∃ y,y = Head.dec (s.extract p s.size).data.toList:=⟨_,rfl⟩
     rw [<- hq] at h
     dsimp only at h
     by_cases hx:x ≠ 0
     · rw [if_pos hx] at h; cases h
     rw [if_neg hx] at h
     by_cases hf:s.size - p < k + hh.n
     · rw [if_pos hf] at h; cases h
     rw [if_neg hf] at h
     cases hr:pcsF s f (p + (k + hh.n)) with
     | error y => rw [hr] at h; cases h
     | ok l =>
       rw [hr] at h
       cases h
       rw [List.map_cons,List.flatten_cons,ih _ _ (by omega) hr,<- ext_app s p (p + (k + hh.n)) s.size (by omega) (by omega)]
theorem pcs_err (s:ByteArray):∀ (f p c q:Nat),pcsF s f p = .error (c,q) -> c ≠ 0:=by
 intro f
 induction f with
 | zero => intro p c q h; cases h; decide
 | succ f ih =>
   intro p c q h
   unfold pcsF at h
   by_cases h0:s.size <= p
   · rw [if_pos h0] at h; cases h
   · rw [if_neg h0] at h
     obtain ⟨⟨hh,k,x⟩,hq⟩:∃ y,y = Head.dec (s.extract p s.size).data.toList:=⟨_,rfl⟩
     rw [<- hq] at h
     dsimp only at h
     by_cases hx:x ≠ 0
     · rw [if_pos hx] at h; cases h; exact hx
     rw [if_neg hx] at h
     by_cases hf:s.size - p < k + hh.n
     · rw [if_pos hf] at h; cases h; decide
     rw [if_neg hf] at h
     cases hr:pcsF s f (p + (k + hh.n)) with
     | error y => rw [hr] at h; cases h; exact ih _ _ _ hr
     | ok l => rw [hr] at h; cases h
theorem enc_one {g:F} (hs:single g) (hok:okF Strs.rightB g) (hl:g.enc.length <= 65535):∃ c t b n B,c <= 3 /\ t <= 2097151 /\ n <= 65535 /\ g.enc = Head.encL c t b n ++ B /\ B.length = n:=by
 cases g with
 | nil => exact absurd hs (by intro h; exact h)
 | prim c t d nx =>
   cases (show nx = .nil from hs)
   obtain ⟨a1,a2,-,-⟩:=hok
   have e:(F.prim c t d .nil).enc = Head.encL c t false d.size ++ d.data.toList:=by show Head.encL c t false d.size ++ d.data.toList ++ [] = _; rw [List.append_nil]
   have hd:d.data.toList.length = d.size:=rfl
   rw [e,List.length_append] at hl
   exact ⟨c,t,false,d.size,d.data.toList,a1,a2,by omega,e,rfl⟩
 | cons c t ks nx =>
   cases (show nx = .nil from hs)
   obtain ⟨a1,a2,-,-,-⟩:=hok
   have e:(F.cons c t ks .nil).enc = Head.encL c t true ks.enc.length ++ ks.enc:=by show Head.encL c t true ks.enc.length ++ ks.enc ++ [] = _; rw [List.append_nil]
   rw [e,List.length_append] at hl
   exact ⟨c,t,true,ks.enc.length,ks.enc,a1,a2,by omega,e,rfl⟩
theorem pcs_build (s:ByteArray):∀ (gs:List F) (f p:Nat),(∀ g ∈ gs,single g /\ okF Strs.rightB g /\ g.enc.length <= 65535) -> (s.extract p s.size).data.toList = (gs.map F.enc).flatten -> p <= s.size -> gs.length < f -> pcsF s f p = .ok (gs.map fun g => bs g.enc):=by
 intro gs
 induction gs with
 | nil =>
   intro f p _ h hp hf
   obtain ⟨f,rfl⟩:∃ f',f = f' + 1:=⟨f - 1,by omega⟩
   have h9:=ext_len s p s.size (Nat.le_refl _)
   rw [h] at h9
   unfold pcsF
   rw [if_pos (by simp at h9; omega)]
   rfl
 | cons g l ih =>
   intro f p hg h hp hf
   obtain ⟨f,rfl⟩:∃ f',f = f' + 1:=⟨f - 1,by omega⟩
   obtain ⟨h1,h2,h3⟩:=hg g (List.mem_cons_self ..)
   obtain ⟨c,t,b,n,B,b1,b2,b3,b4,b5⟩:=enc_one h1 h2 h3
   have h9:=ext_len s p s.size (Nat.le_refl _)
   rw [h,List.map_cons,List.flatten_cons,List.length_append] at h9
   have hlen:g.enc.length = (Head.encL c t b n).length + n:=by rw [b4,List.length_append,b5]
   have h2e:=encL_two c t b n
   have hx:(s.extract p (p + g.enc.length)).data.toList = g.enc /\ (s.extract (p + g.enc.length) s.size).data.toList = (l.map F.enc).flatten:=by
     have h8:=ext_app s p (p + g.enc.length) s.size (by omega) (by omega)
     rw [h,List.map_cons,List.flatten_cons] at h8
     exact List.append_inj h8.symm (by rw [ext_len s p _ (by omega)]; omega)
   have hd:Head.dec (s.extract p s.size).data.toList = (⟨c,t,b,n⟩,(Head.encL c t b n).length,0):=by
     rw [h,List.map_cons,List.flatten_cons,b4,List.append_assoc]
     exact Head.dec_enc c t n b b1 b2 b3 _
   have hl:=ih f (p + g.enc.length) (fun g' hg' => hg g' (List.mem_cons_of_mem _ hg')) hx.2 (by omega) (by rw [List.length_cons] at hf; omega)
   unfold pcsF
   rw [if_neg (by omega),hd]
   dsimp only
   rw [if_neg (by decide),if_neg (by omega),<- hlen,hl]
   dsimp only
   rw [List.map_cons,show s.extract p (p + g.enc.length) = bs g.enc from ba_ext hx.1]
theorem pcs_all (gs:List F) (hg:∀ g ∈ gs,single g /\ okF Strs.rightB g /\ g.enc.length <= 65535) (hl:(gs.map F.enc).flatten.length <= 65535):pcsV (bs (gs.map F.enc).flatten) = (0,0,gs.map fun g => bs g.enc):=by
 have hx:(bs (gs.map F.enc).flatten).extract 0 (bs (gs.map F.enc).flatten).size = bs (gs.map F.enc).flatten:=by simp
 have hn:∀ hs:List F,(∀ g ∈ hs,single g /\ okF Strs.rightB g /\ g.enc.length <= 65535) -> hs.length <= (hs.map F.enc).flatten.length:=by
   intro hs
   induction hs with
   | nil => intro _; exact Nat.le_refl _
   | cons g l ih =>
     intro h
     rw [List.map_cons,List.flatten_cons,List.length_append,List.length_cons]
     have:=enc_two (h g (List.mem_cons_self ..)).1
     have:=ih fun g' hg' => h g' (List.mem_cons_of_mem _ hg')
     omega
 have h1:=hn gs hg
 have hz:(bs (gs.map F.enc).flatten).size = (gs.map F.enc).flatten.length:=size_bs _
 unfold pcsV
 rw [if_neg (by omega),pcs_build _ gs _ 0 hg (by rw [hx]; rfl) (Nat.zero_le _) (by omega)]
theorem pcs_flat (s:ByteArray) (L:List ByteArray) (h:pcsV s = (0,0,L)) (hL:s.size <= 65535):(∃ l,pcsF s (s.size + 1) 0 = .ok l) -> (L.map fun b => b.data.toList).flatten = s.data.toList:=by
 rintro ⟨l,hl⟩
 unfold pcsV at h
 rw [if_neg (by omega),hl] at h
 dsimp only at h
 cases h
 have hx:s.extract 0 s.size = s:=by simp
 rw [pcs_join s _ _ _ (Nat.zero_le _) hl,hx]
end Tlv
end Go.Proofs.YtpanhhjkecebkaaGreat
namespace Go.Proofs.YtpanhhjkecebkaaGreat
open Go.RowKit
namespace Tree
open Tlv Strs Rw
theorem tops_le (g:F):∀ (i:Nat),(g.tops i).length <= g.cnt:=by
 induction g with
 | nil => intro i; exact Nat.le_refl _
 | prim c t d nx ih => intro i; show (nx.tops (i + 1)).length + 1 <= 1 + nx.cnt; have:=ih (i + 1); omega
 | cons c t ks nx _ ih => intro i; show (nx.tops (i + 1 + ks.cnt)).length + 1 <= 1 + ks.cnt + nx.cnt; have:=ih (i + 1 + ks.cnt); omega
theorem tops_num (g:F):∀ (i:Nat),∀ a ∈ g.tops i,(i:Int) <= a /\ a < (i:Int) + (g.cnt:Int):=by
 induction g with
 | nil => intro i a h; cases h
 | prim c t d nx ih =>
   intro i a h
   have hc:(F.prim c t d nx).cnt = 1 + nx.cnt:=rfl
   rw [hc]
   rcases List.mem_cons.1 (show a ∈ (i:Int) :: nx.tops (i + 1) from h) with rfl | h
   · omega
   · have:=ih (i + 1) a h; omega
 | cons c t ks nx _ ih =>
   intro i a h
   have hc:(F.cons c t ks nx).cnt = 1 + ks.cnt + nx.cnt:=rfl
   rw [hc]
   rcases List.mem_cons.1 (show a ∈ (i:Int) :: nx.tops (i + 1 + ks.cnt) from h) with rfl | h
   · omega
   · have:=ih (i + 1 + ks.cnt) a h; omega
theorem flat_k (g:F):∀ (i:Nat),∀ x ∈ g.flat i,x.k.length <= g.cnt /\ ∀ a ∈ x.k,(i:Int) <= a /\ a < (i:Int) + (g.cnt:Int):=by
 induction g with
 | nil => intro i x h; cases h
 | prim c t d nx ih =>
   intro i x h
   have hc:(F.prim c t d nx).cnt = 1 + nx.cnt:=rfl
   rw [hc]
   rcases List.mem_cons.1 (show x ∈ (⟨c,t,false,d,[]⟩:Nd) :: nx.flat (i + 1) from h) with rfl | h
   · exact ⟨Nat.zero_le _,fun a ha => by cases ha⟩
   · obtain ⟨h1,h2⟩:=ih (i + 1) x h
     exact ⟨by omega,fun a ha => by have:=h2 a ha; omega⟩
 | cons c t ks nx ih1 ih2 =>
   intro i x h
   have hc:(F.cons c t ks nx).cnt = 1 + ks.cnt + nx.cnt:=rfl
   rw [hc]
   rcases List.mem_cons.1 (show x ∈ (⟨c,t,true,⟨#[]⟩,ks.tops (i + 1)⟩:Nd) :: (ks.flat (i + 1) ++ nx.flat (i + 1 + ks.cnt)) from h) with rfl | h
   · refine ⟨by have:=tops_le ks (i + 1); show (ks.tops (i + 1)).length <= _; omega,fun a ha => ?_⟩
     have:=tops_num ks (i + 1) a ha
     omega
   · rcases List.mem_append.1 h with h | h
     · obtain ⟨h1,h2⟩:=ih1 (i + 1) x h
       exact ⟨by omega,fun a ha => by have:=h2 a ha; omega⟩
     · obtain ⟨h1,h2⟩:=ih2 (i + 1 + ks.cnt) x h
       exact ⟨by omega,fun a ha => by have:=h2 a ha; omega⟩
theorem fair_flat (g:F) (h:g.cnt <= 1000):Fair (g.flat 0):=⟨by rw [F.flat_len]; exact h,fun x hx => by have:=(flat_k g 0 x hx).1; omega,fun x hx a ha => by have:=(flat_k g 0 x hx).2 a ha; omega⟩
theorem join_take (gs:List F):∀ (a:Nat),(join (gs.take a)).cnt <= (join gs).cnt:=by
 induction gs with
 | nil => intro a; rw [List.take_nil]; exact Nat.le_refl _
 | cons g l ih =>
   intro a
   cases a with
   | zero => exact Nat.zero_le _
   | succ a =>
     show (g.app (join (l.take a))).cnt <= (g.app (join l)).cnt
     rw [F.cnt_app,F.cnt_app]
     have:=ih a
     omega
theorem mem_join (gs:List F):∀ g ∈ gs,g.cnt <= (join gs).cnt:=by
 induction gs with
 | nil => intro g h; cases h
 | cons g l ih =>
   intro g' h
   show _ <= (g.app (join l)).cnt
   rw [F.cnt_app]
   rcases List.mem_cons.1 h with rfl | h
   · omega
   · have:=ih g' h; omega
theorem of_g (c t:Nat) (gs:List F) (hs:∀ g ∈ gs,single g) (hn:gs.length <= 1000) (hc:(join gs).cnt <= 1000) (w:World) (P:Value) (hP:TreesS w P (gs.map (fun g => g.flat 0))):Calls Tryz.prog 54 #[.int .i64 (c:Int),.int .i64 (t:Int),P] w fun e w' => ∃ v',e = .returned v' /\ TreeS w' v' ((F.cons c t (join gs) .nil).flat 0) /\ Since w w':=by
 have key:∀ a,((gs.map (fun g => g.flat 0)).take a).foldl stepN [⟨(c:Int),(t:Int),true,⟨#[]⟩,[]⟩] = (F.cons c t (join (gs.take a)) .nil).flat 0:=fun a => by
   rw [<- List.map_take]
   exact ofN_flat c t (gs.take a) (fun g hg => hs g (List.mem_of_mem_take hg))
 have hle:∀ a,(F.cons c t (join (gs.take a)) .nil).cnt <= 1001:=fun a => by
   show 1 + (join (gs.take a)).cnt + 0 <= 1001
   have:=join_take gs a
   omega
 have h9:=of_mk (c:Int) (t:Int) (gs.map (fun g => g.flat 0)) (fun N hN => by
     obtain ⟨g,hg,rfl⟩:=List.mem_map.1 hN
     exact fair_flat g (by have:=mem_join gs g hg; omega)) (by rw [List.length_map]; exact hn) (fun a => by rw [key a,F.flat_len]; have:=hle a; omega) (fun a x hx => by
     rw [key a] at hx
     have:=(flat_k _ 0 x hx).1
     have:=hle a
     omega) w P hP
 rw [show ofN (c:Int) (t:Int) (gs.map (fun g => g.flat 0)) = (F.cons c t (join gs) .nil).flat 0 from ofN_flat c t gs hs] at h9
 exact h9
theorem trees_lit (W:World) (vs:List Value) (Ns:List (List Nd)) (hl:vs.length = Ns.length) (hm:Ns.length <= 1000) (h:∀ (j:Nat) x N,vs[j]? = some x -> Ns[j]? = some N -> TreeS W x N) (C:Array Value) (hC:C = vs.toArray) (t:TypeId) :
   TreesS (W.alloc (.cells C t)) (.slice (some ⟨W.heap.size,0,none⟩) Ns.length Ns.length) Ns :=
 ⟨vs,SlR.lit W 1 Ns.length vs (by omega) (by unfold maxLen; omega) C hC t,fun j x N hx hN => (h j x N hx hN).since ((Since.refl W).alloc _)⟩
end Tree
end Go.Proofs.YtpanhhjkecebkaaGreat
