import Derived.Test.YtagmgldibjjeeaaDoorPt16
import Derived.Test.YtagmgldibjjeeaaDoorPt17
import Derived.Test.YtagmgldibjjeeaaDoorPt6
import Derived.Test.YtagmgldibjjeeaaDoorPt10
set_option maxRecDepth 100000
namespace Go.Proofs.YtagmgldibjjeeaaDoor
open Go.RowKit
namespace Pm
theorem hrc {w W:World} {g:Nat} {C:Array Value} {t:TypeId} (h:HR w g C t W) (i:Nat) (v:Value) (hv:C[i]? = some v):W.cell? ⟨g,i,none⟩ = some v:=by
 unfold World.cell?
 rw [h.row]
 simpa using hv
theorem BR.val {w W:World} {v:Value} {l:List UInt8} (h:BR w W v l):∃ A c,v = .slice A l.length c:=by
 rcases h.get.2 with ⟨h0,h1⟩ | ⟨g',cap,cur,hv,_⟩
 · exact ⟨none,0,by rw [show l.length = 0 from h1]; exact h0⟩
 · exact ⟨_,_,hv⟩
theorem pick_step (N m j:Nat) (h:j < 4):(four N m).take (j + 1) = (four N m).take j ++ [pick N m j]:=by
 rcases (show j = 0 ∨ j = 1 ∨ j = 2 ∨ j = 3 by omega) with rfl | rfl | rfl | rfl <;> rfl
theorem cut_get (s:ByteArray) (p i:Nat):(s.extract p s.size).data.toList.getD i 0 = s.data.toList.getD (p + i) 0:=by
 rw [ByteArray.data_extract,Array.toList_extract]
 unfold List.extract
 rw [List.take_of_length_le (by rw [List.length_drop]; exact Nat.le_refl _),List.getD_eq_getElem?_getD,List.getD_eq_getElem?_getD,List.getElem?_drop]
set_option maxHeartbeats 8000000 in
theorem base_mk (s:ByteArray) (hm:s.size <= 200000):Mak 12 #[.string s] (.string (bs (baseL s.data.toList))):=by
 intro w
 have HM:=lH hm
 obtain ⟨l,hl⟩:∃ l,l = s.data.toList:=⟨_,rfl⟩
 have HL:=lH hl
 have HLN:=lH (show l.length = s.size by rw [hl]; rfl)
 rw [<- hl]
 obtain ⟨X,hX⟩:∃ X,X = bs (baseL l):=⟨_,rfl⟩
 rw [<- hX]
 have HX:=lH hX
 clear hl hX
 obtain ⟨i8,e1,e2,e3,e4⟩:=info_parts (P:=Tryd.prog) info5
 go_enter Tryd.func12,Tryd.ntmps12
 go_wp2_with (refine wpList_make_own w rfl _ _ 32 rfl w.heap.size 5 i8 (.int .u8 0) 1 Tryd.underlying32 e1 e2 e3 .i64 .i64 _ ((s.size + 2) / 3 * 4) (by rfl) (by rfl) (by omega) (by rw [e4]; omega) (by unfold maxLen; omega) (Nat.le_refl _) ?_; intro w1 ho1 hg1)
 have HB0:Hid (BR w w1 (.slice (some ⟨w.heap.size,0,none⟩) 0 ((s.size + 2) / 3 * 4)) (baseL (l.take 0))):=lH ⟨fun r hr => by rw [List.mem_singleton.1 hr]; exact ho1,by simp⟩
 have HS0:Hid (Since w w1):=lH (Below.grown (Since.refl w) hg1 (Nat.le_refl _) (fun k hk => by cases hk))
 clear ho1 hg1 e1 e2 e3 e4 hm
 go_loopw [3,4] (fun V i wr => ∃ p k:Nat,p = 3 * k /\ i = .int .i64 (p:Int) /\ Hid (p <= s.size + 2) /\ Hid (BR w wr V (baseL (l.take p))) /\ Hid (Since w wr)) (fun _ i _ => s.size - (intOf i).toNat)
 case atStart => exact ⟨0,0,rfl,rfl,lH (Nat.zero_le _),HB0,HS0⟩
 case round =>
   clear HB0 HS0
   obtain ⟨p,k,hp,rfl,HP,HB,HS⟩:=hrel
   by_cases hlt:p < s.size
   · have i1:(0:Int) <= (p:Int):=by omega
     have i2:(p:Int) < (s.size:Int):=by omega
     have i3:(p:Int) <= (s.size:Int):=by omega
     obtain ⟨y,hy⟩:∃ y,y = s.extract p s.size:=⟨_,rfl⟩
     have hyz:y.size = s.size - p:=by rw [hy,ByteArray.size_extract]; omega
     have HPK:=lH hp
     have HY:=lH hy
     obtain ⟨G,hG⟩:∃ G,G = wr.heap.size:=⟨_,rfl⟩
     have hb3:=lH (show (wr.alloc (.cells #[.int .u8 0,.int .u8 0,.int .u8 0] 50)).drew.heap[wr.heap.size]? = some (.cells #[.int .u8 0,.int .u8 0,.int .u8 0] 50 (0,0)) from heap_alloc_new wr _)
     obtain ⟨w3,hrun,hrow,hsn⟩:=run_copy3 _ wr.heap.size 50 3 y hb3.out
     have hS3:Since wr w3:=hsn wr (Nat.le_refl _) (((Since.refl wr).alloc _).drew)
     have HB3:=lH (HB.out.since hS3)
     have HS3:=lH (HS.out.step hS3)
     have HRUN:=lH hrun
     obtain ⟨x0,hx0⟩:∃ x,x = (y.data.toList.getD 0 0).toNat:=⟨_,rfl⟩
     obtain ⟨x1,hx1⟩:∃ x,x = (y.data.toList.getD 1 0).toNat:=⟨_,rfl⟩
     obtain ⟨x2,hx2⟩:∃ x,x = (y.data.toList.getD 2 0).toNat:=⟨_,rfl⟩
     rw [<- hx0,<- hx1,<- hx2] at hrow
     have hr:Hid (HR w G #[.int .u8 (x0:Int),.int .u8 (x1:Int),.int .u8 (x2:Int)] 50 w3):=lH ⟨by rw [hG]; exact hrow⟩
     have b0:x0 < 256:=by rw [hx0]; exact UInt8.toNat_lt _
     have b1:x1 < 256:=by rw [hx1]; exact UInt8.toNat_lt _
     have b2:x2 < 256:=by rw [hx2]; exact UInt8.toNat_lt _
     obtain ⟨N1,hN1⟩:∃ N,N = x0 * 65536 + x1 * 256:=⟨_,rfl⟩
     obtain ⟨N,hN⟩:∃ N,N = N1 + x2:=⟨_,rfl⟩
     have q1:bits .or .i64 ((x0:Int) * 65536) ((x1:Int) * 256) = (N1:Int):=by rw [or16 x0 x1 b0 b1,hN1]; omega
     have q2:bits .or .i64 (N1:Int) (x2:Int) = (N:Int):=by
       have h9:=or8 x0 x1 x2 b0 b1 b2
       rw [show (x0:Int) * 65536 + (x1:Int) * 256 = (N1:Int) by rw [hN1]; omega] at h9
       rw [h9,hN]; omega
     have hNb:N < 16777216:=by omega
     obtain ⟨m,hmm⟩:∃ m,m = min y.size 3:=⟨_,rfl⟩
     have HG4:Hid (grpL l p = four N m):=lH (by
       unfold grpL
       have g:=cut_get s p
       rw [<- hy,<- HL.out] at g
       have g0:=g 0
       rw [Nat.add_zero] at g0
       rw [<- g0,<- g 1,<- g 2,hmm,hyz,HLN.out]
       unfold num3
       rw [<- hx0,<- hx1,<- hx2,<- hN1,<- hN])
     have hm1:1 <= m:=by rw [hmm,hyz]; omega
     have hm3:m <= 3:=by rw [hmm]; exact Nat.min_le_right _ _
     rw [<- hmm] at HRUN
     have HN9:=lH hNb
     clear hrun hrow hsn hS3 HB HS hp hyz hy hx0 hx1 hx2 hN1 hN hNb hmm
     go_upto_region 6 with fail
     refine RegW.start (fun _ => True) 5 (by kernel_rfl) trivial (fun hHeld => ?_)
     refine RegW.tk 0 rfl ?_
     try simp only [RegW.p]
     refine RegW.tk 1 rfl ?_
     try simp only [RegW.p]
     refine RegW.tk 2 rfl ?_
     try simp only [RegW.p]
     refine RegW.tk 3 rfl ?_
     try simp only [RegW.p]
     rw [<- HY.out]
     refine RegW.only (i:=4) rfl (by kernel_rfl) (fun K9 hK => ?_)
     rw [if_pos (by kernel_rfl)]
     refine Lib.wp_copy_run _ _ _ _ _ rfl _ _ (by rfl) (by rfl) HRUN.out ?_
     refine hK.out _ _ trivial (fun _ => ?_)
     clear hK K9
     try simp only [RegW.p]
     refine RegW.last rfl (by kernel_rfl) (by kernel_rfl) ?_
     rw [<- hG]
     clear hHeld hb3 HRUN hG
     have k0:=hrc hr.out 0 _ rfl
     have k1:=hrc hr.out 1 _ rfl
     have k2:=hrc hr.out 2 _ rfl
     go_wp2_with fail
     have HB4:Hid (BR w w3 u3 (baseL (l.take p) ++ (four N m).take 0)):=lH (by rw [List.take_zero,List.append_nil]; exact HB3.out)
     clear k0 k1 k2 q1 q2 hr b0 b1 b2
     go_loopw [3,40] (fun V c wr => ∃ j:Nat,j <= 4 /\ c = .int .i64 (j:Int) /\ Hid (BR w wr V (baseL (l.take p) ++ (four N m).take j)) /\ Hid (Since w wr)) (fun _ c _ => 4 - (intOf c).toNat)
     case atStart => exact ⟨0,by omega,rfl,HB4,HS3⟩
     case round =>
       clear HB3 HB4 HS3
       obtain ⟨j,hj,rfl,HB,HS⟩:=hrel
       by_cases hj4:j < 4
       · obtain ⟨A9,c9,hV⟩:=HB.out.val
         subst hV
         obtain ⟨nl,hnl⟩:∃ n,n = (baseL (l.take p) ++ (four N m).take j).length:=⟨_,rfl⟩
         rw [<- hnl] at HB ⊢
         have HNL:=lH hnl
         have hnb:nl <= 1000000:=by
           have h1:=base_len (l.take p)
           rw [List.length_take] at h1
           have h2:=HLN.out
           have h3:=HM.out
           rw [hnl,List.length_append,h1,List.length_take]
           omega
         clear hnl
         rcases (show j = 0 ∨ j = 1 ∨ j = 2 ∨ j = 3 by omega) with rfl | rfl | rfl | rfl
         · by_cases hjm:0 <= m
           · have t1:(0:Int) <= (m:Int):=by omega
             obtain ⟨d,hd⟩:∃ d,d = N / 262144 % 64:=⟨_,rfl⟩
             have hd64:d < 64:=by omega
             have z1:bits .and .i64 ((N:Int) / 262144) 63 = (d:Int):=by
               have h9:=and63 (N / 262144) (by have:=HN9.out; omega)
               rw [show ((N / 262144:Nat):Int) = (N:Int) / 262144 by omega] at h9
               rw [h9,hd]
             have ha:=alph_at d hd64
             unfold alph at ha
             obtain ⟨cc,hcc⟩:∃ c,c = sg d:=⟨_,rfl⟩
             rw [<- hcc] at ha
             have HPI:Hid (pick N m 0 = cc):=lH (by rw [pick_in N m 0 hjm,hcc,hd])
             have dz1:(0:Int) <= (d:Int):=by omega
             have dz2:(d:Int) < 64:=by omega
             clear hd hcc hjm
             have HB1:=lH (show nl + 1 <= maxLen by unfold maxLen; omega)
             have HB2:=lH (show (nl + 1) * 1 <= 140737488355328 by omega)
             have HBR:=lH (show Rw.Rows wr w.heap.size (([]:List Rw.Row) ++ ⟨5,1,.slice A9 nl c9,nl,(baseL (l.take p) ++ (four N m).take 0).map fun b => Value.int .u8 b.toNat⟩ :: []) by have h9:=HB.out; unfold BR at h9; rw [<- HNL.out] at h9; exact h9)
             clear HB
             go_wp2_with (at_builtin; refine Rw.app_rows elem8 rfl _ _ (by rfl) w wr _ rfl [] [] _ nl _ (by rfl) HBR.out HS.out #[.int .u8 (cc.toNat:Int)] 1 1 (by rfl) rfl (b_one _) HB1.out HB2.out ?_; intro V2 w4 HQ9 HT9 _; have HQ:=lH HQ9; have HT:=lH HT9; clear HQ9 HT9)
             clear z1 ha dz1 dz2 t1 hd64
             have HF:Hid (BR w w4 V2 (baseL (l.take p) ++ (four N m).take (0 + 1))):=lH (by
               rw [pick_step N m 0 (by decide),HPI.out,<- List.append_assoc]
               exact BR.app _ (by rw [<- HNL.out]; exact HQ.out))
             clear HQ HBR HB1 HB2 HNL
             go_wp2_with fail
             go_roundw
             case rel => exact ⟨0 + 1,by omega,by go_num,HF,HT⟩
             case measure => (simp [intOf] <;> omega)
           · exfalso
             omega
         · by_cases hjm:1 <= m
           · have t1:(1:Int) <= (m:Int):=by omega
             obtain ⟨d,hd⟩:∃ d,d = N / 4096 % 64:=⟨_,rfl⟩
             have hd64:d < 64:=by omega
             have z1:bits .and .i64 ((N:Int) / 4096) 63 = (d:Int):=by
               have h9:=and63 (N / 4096) (by have:=HN9.out; omega)
               rw [show ((N / 4096:Nat):Int) = (N:Int) / 4096 by omega] at h9
               rw [h9,hd]
             have ha:=alph_at d hd64
             unfold alph at ha
             obtain ⟨cc,hcc⟩:∃ c,c = sg d:=⟨_,rfl⟩
             rw [<- hcc] at ha
             have HPI:Hid (pick N m 1 = cc):=lH (by rw [pick_in N m 1 hjm,hcc,hd])
             have dz1:(0:Int) <= (d:Int):=by omega
             have dz2:(d:Int) < 64:=by omega
             clear hd hcc hjm
             have HB1:=lH (show nl + 1 <= maxLen by unfold maxLen; omega)
             have HB2:=lH (show (nl + 1) * 1 <= 140737488355328 by omega)
             have HBR:=lH (show Rw.Rows wr w.heap.size (([]:List Rw.Row) ++ ⟨5,1,.slice A9 nl c9,nl,(baseL (l.take p) ++ (four N m).take 1).map fun b => Value.int .u8 b.toNat⟩ :: []) by have h9:=HB.out; unfold BR at h9; rw [<- HNL.out] at h9; exact h9)
             clear HB
             go_wp2_with (at_builtin; refine Rw.app_rows elem8 rfl _ _ (by rfl) w wr _ rfl [] [] _ nl _ (by rfl) HBR.out HS.out #[.int .u8 (cc.toNat:Int)] 1 1 (by rfl) rfl (b_one _) HB1.out HB2.out ?_; intro V2 w4 HQ9 HT9 _; have HQ:=lH HQ9; have HT:=lH HT9; clear HQ9 HT9)
             clear z1 ha dz1 dz2 t1 hd64
             have HF:Hid (BR w w4 V2 (baseL (l.take p) ++ (four N m).take (1 + 1))):=lH (by
               rw [pick_step N m 1 (by decide),HPI.out,<- List.append_assoc]
               exact BR.app _ (by rw [<- HNL.out]; exact HQ.out))
             clear HQ HBR HB1 HB2 HNL
             go_wp2_with fail
             go_roundw
             case rel => exact ⟨1 + 1,by omega,by go_num,HF,HT⟩
             case measure => (simp [intOf] <;> omega)
           · exfalso
             omega
         · by_cases hjm:2 <= m
           · have t1:(2:Int) <= (m:Int):=by omega
             obtain ⟨d,hd⟩:∃ d,d = N / 64 % 64:=⟨_,rfl⟩
             have hd64:d < 64:=by omega
             have z1:bits .and .i64 ((N:Int) / 64) 63 = (d:Int):=by
               have h9:=and63 (N / 64) (by have:=HN9.out; omega)
               rw [show ((N / 64:Nat):Int) = (N:Int) / 64 by omega] at h9
               rw [h9,hd]
             skip
             have ha:=alph_at d hd64
             unfold alph at ha
             obtain ⟨cc,hcc⟩:∃ c,c = sg d:=⟨_,rfl⟩
             rw [<- hcc] at ha
             have HPI:Hid (pick N m 2 = cc):=lH (by rw [pick_in N m 2 hjm,hcc,hd])
             have dz1:(0:Int) <= (d:Int):=by omega
             have dz2:(d:Int) < 64:=by omega
             clear hd hcc hjm
             have HB1:=lH (show nl + 1 <= maxLen by unfold maxLen; omega)
             have HB2:=lH (show (nl + 1) * 1 <= 140737488355328 by omega)
             have HBR:=lH (show Rw.Rows wr w.heap.size (([]:List Rw.Row) ++ ⟨5,1,.slice A9 nl c9,nl,(baseL (l.take p) ++ (four N m).take 2).map fun b => Value.int .u8 b.toNat⟩ :: []) by have h9:=HB.out; unfold BR at h9; rw [<- HNL.out] at h9; exact h9)
             clear HB
             go_wp2_with (at_builtin; refine Rw.app_rows elem8 rfl _ _ (by rfl) w wr _ rfl [] [] _ nl _ (by rfl) HBR.out HS.out #[.int .u8 (cc.toNat:Int)] 1 1 (by rfl) rfl (b_one _) HB1.out HB2.out ?_; intro V2 w4 HQ9 HT9 _; have HQ:=lH HQ9; have HT:=lH HT9; clear HQ9 HT9)
             clear z1 ha dz1 dz2 t1 hd64
             have HF:Hid (BR w w4 V2 (baseL (l.take p) ++ (four N m).take (2 + 1))):=lH (by
               rw [pick_step N m 2 (by decide),HPI.out,<- List.append_assoc]
               exact BR.app _ (by rw [<- HNL.out]; exact HQ.out))
             clear HQ HBR HB1 HB2 HNL
             go_wp2_with fail
             go_roundw
             case rel => exact ⟨2 + 1,by omega,by go_num,HF,HT⟩
             case measure => (simp [intOf] <;> omega)
           · have t1:¬ ((2:Int) <= (m:Int)):=by omega
             have HPI:Hid (pick N m 2 = 61):=lH (pick_out N m 2 hjm)
             clear hjm
             have HB1:=lH (show nl + 1 <= maxLen by unfold maxLen; omega)
             have HB2:=lH (show (nl + 1) * 1 <= 140737488355328 by omega)
             have HBR:=lH (show Rw.Rows wr w.heap.size (([]:List Rw.Row) ++ ⟨5,1,.slice A9 nl c9,nl,(baseL (l.take p) ++ (four N m).take 2).map fun b => Value.int .u8 b.toNat⟩ :: []) by have h9:=HB.out; unfold BR at h9; rw [<- HNL.out] at h9; exact h9)
             clear HB
             go_wp2_with (at_builtin; refine Rw.app_rows elem8 rfl _ _ (by rfl) w wr _ rfl [] [] _ nl _ (by rfl) HBR.out HS.out #[.int .u8 61] 1 1 (by rfl) rfl (b_one _) HB1.out HB2.out ?_; intro V2 w4 HQ9 HT9 _; have HQ:=lH HQ9; have HT:=lH HT9; clear HQ9 HT9)
             clear t1
             have HF:Hid (BR w w4 V2 (baseL (l.take p) ++ (four N m).take (2 + 1))):=lH (by
               rw [pick_step N m 2 (by decide),HPI.out,<- List.append_assoc]
               exact BR.app _ (by rw [<- HNL.out]; exact HQ.out))
             clear HQ HBR HB1 HB2 HNL
             go_wp2_with fail
             go_roundw
             case rel => exact ⟨2 + 1,by omega,by go_num,HF,HT⟩
             case measure => (simp [intOf] <;> omega)
         · by_cases hjm:3 <= m
           · have t1:(3:Int) <= (m:Int):=by omega
             obtain ⟨d,hd⟩:∃ d,d = N / 1 % 64:=⟨_,rfl⟩
             have hd64:d < 64:=by omega
             have z1:bits .and .i64 ((N:Int) / 1) 63 = (d:Int):=by
               have h9:=and63 (N / 1) (by have:=HN9.out; omega)
               rw [show ((N / 1:Nat):Int) = (N:Int) / 1 by omega] at h9
               rw [h9,hd]
             have z0:bits .and .i64 (N:Int) 63 = (d:Int):=by rw [and63 N (by have:=HN9.out; omega),hd,Nat.div_one]
             have ha:=alph_at d hd64
             unfold alph at ha
             obtain ⟨cc,hcc⟩:∃ c,c = sg d:=⟨_,rfl⟩
             rw [<- hcc] at ha
             have HPI:Hid (pick N m 3 = cc):=lH (by rw [pick_in N m 3 hjm,hcc,hd])
             have dz1:(0:Int) <= (d:Int):=by omega
             have dz2:(d:Int) < 64:=by omega
             clear hd hcc hjm
             have HB1:=lH (show nl + 1 <= maxLen by unfold maxLen; omega)
             have HB2:=lH (show (nl + 1) * 1 <= 140737488355328 by omega)
             have HBR:=lH (show Rw.Rows wr w.heap.size (([]:List Rw.Row) ++ ⟨5,1,.slice A9 nl c9,nl,(baseL (l.take p) ++ (four N m).take 3).map fun b => Value.int .u8 b.toNat⟩ :: []) by have h9:=HB.out; unfold BR at h9; rw [<- HNL.out] at h9; exact h9)
             clear HB
             go_wp2_with (at_builtin; refine Rw.app_rows elem8 rfl _ _ (by rfl) w wr _ rfl [] [] _ nl _ (by rfl) HBR.out HS.out #[.int .u8 (cc.toNat:Int)] 1 1 (by rfl) rfl (b_one _) HB1.out HB2.out ?_; intro V2 w4 HQ9 HT9 _; have HQ:=lH HQ9; have HT:=lH HT9; clear HQ9 HT9)
             clear z1 ha dz1 dz2 t1 hd64
             have HF:Hid (BR w w4 V2 (baseL (l.take p) ++ (four N m).take (3 + 1))):=lH (by
               rw [pick_step N m 3 (by decide),HPI.out,<- List.append_assoc]
               exact BR.app _ (by rw [<- HNL.out]; exact HQ.out))
             clear HQ HBR HB1 HB2 HNL
             go_wp2_with fail
             go_roundw
             case rel => exact ⟨3 + 1,by omega,by go_num,HF,HT⟩
             case measure => (simp [intOf] <;> omega)
           · have t1:¬ ((3:Int) <= (m:Int)):=by omega
             have HPI:Hid (pick N m 3 = 61):=lH (pick_out N m 3 hjm)
             clear hjm
             have HB1:=lH (show nl + 1 <= maxLen by unfold maxLen; omega)
             have HB2:=lH (show (nl + 1) * 1 <= 140737488355328 by omega)
             have HBR:=lH (show Rw.Rows wr w.heap.size (([]:List Rw.Row) ++ ⟨5,1,.slice A9 nl c9,nl,(baseL (l.take p) ++ (four N m).take 3).map fun b => Value.int .u8 b.toNat⟩ :: []) by have h9:=HB.out; unfold BR at h9; rw [<- HNL.out] at h9; exact h9)
             clear HB
             go_wp2_with (at_builtin; refine Rw.app_rows elem8 rfl _ _ (by rfl) w wr _ rfl [] [] _ nl _ (by rfl) HBR.out HS.out #[.int .u8 61] 1 1 (by rfl) rfl (b_one _) HB1.out HB2.out ?_; intro V2 w4 HQ9 HT9 _; have HQ:=lH HQ9; have HT:=lH HT9; clear HQ9 HT9)
             clear t1
             have HF:Hid (BR w w4 V2 (baseL (l.take p) ++ (four N m).take (3 + 1))):=lH (by
               rw [pick_step N m 3 (by decide),HPI.out,<- List.append_assoc]
               exact BR.app _ (by rw [<- HNL.out]; exact HQ.out))
             clear HQ HBR HB1 HB2 HNL
             go_wp2_with fail
             go_roundw
             case rel => exact ⟨3 + 1,by omega,by go_num,HF,HT⟩
             case measure => (simp [intOf] <;> omega)
       · obtain rfl:j = 4:=by omega
         have HF:Hid (BR w wr u3 (baseL (l.take (p + 3)))):=lH (by
           have h9:=HB.out
           rw [show (four N m).take 4 = four N m from rfl,<- HG4.out,HPK.out,<- base_next l k (by rw [HLN.out,<- HPK.out]; exact hlt)] at h9
           rw [HPK.out]
           exact h9)
         have hwp:p <= 200000:=by have:=HM.out; omega
         have HK3:Hid (p + 3 = 3 * (k + 1)):=lH (by rw [HPK.out]; omega)
         clear HB HG4
         go_wp2_with fail
         go_roundw
         case rel => exact ⟨p + 3,k + 1,HK3.out,by go_num,lH (by omega),HF,HS⟩
         case measure => (simp [intOf] <;> omega)
   · have hcv:=conv_l HB.out
     rw [List.take_of_length_le (by rw [HLN.out]; omega),<- HX.out] at hcv
     obtain ⟨A9,c9,hV⟩:=HB.out.val
     subst hV
     have HCV:=lH hcv
     clear HB hp
     have hcv2:=HCV.out
     go_wp2_with fail
     go_ret
     exact ⟨rfl,HS.out⟩
end Pm
namespace Pm
theorem trimr_ret (s:ByteArray) (hm:s.size <= 140737488355328) (R:ByteArray) (hR:trimR s.data.toList = R.data.toList):Ret 14 #[.string s,.string ⟨#[61]⟩] (.string R):=by
 intro w
 by_cases h0:s.size = 0
 · have h1:s.data.toList = []:=List.length_eq_zero_iff.1 h0
   have hs:s = ⟨#[]⟩:=ba_ext h1
   subst hs
   have hr:R = ⟨#[]⟩:=ba_ext (by rw [<- hR]; rfl)
   subst hr
   have e0:((⟨#[]⟩:ByteArray).toList == ([]:List UInt8)) = true:=by decide +kernel
   clear hR
   go_enter Tryd.func14,Tryd.ntmps14
   go_wp2_with fail
   go_ret
   exact ⟨rfl,rfl⟩
 · have c1:=Trim.tright_ret 61 s hm R hR 61 rfl
   have e0:(s.toList == ([]:List UInt8)) = false:=by
     rw [toList_d]
     exact beq_eq_false_iff_ne.2 (fun h => h0 (by show s.data.toList.length = 0; rw [h]; rfl))
   clear hR
   go_enter Tryd.func14,Tryd.ntmps14
   go_wp2_with fail
   refine (c1).calls ?_
   go_wp2_with fail
   go_ret
   exact ⟨rfl,rfl⟩
def idx (c:UInt8):Int:=match val c with
 | some d => (d:Int)
 | none => -1
theorem idx_all:∀ c:Fin 256,Lib.indexByte alph.data.toList (UInt8.ofNat c.1) = idx (UInt8.ofNat c.1):=by decide +kernel
theorem idx_is (c:UInt8):Lib.indexByte alph.data.toList c = idx c:=by
 have h:=idx_all ⟨c.toNat,c.toNat_lt⟩
 rwa [show UInt8.ofNat (⟨c.toNat,c.toNat_lt⟩:Fin 256).1 = c by simp] at h
theorem idx_ret (c:UInt8):Ret 15 #[.string alph,.int .u8 (c.toNat:Int)] (.int .i64 (idx c)):=by
 intro w
 have c1:=Cut.indexbyte_ret alph (c.toNat:Int)
 rw [show ((c.toNat:Int).toNat.toUInt8) = c from by simp,idx_is] at c1
 obtain ⟨S,hS⟩:∃ S,S = alph:=⟨_,rfl⟩
 rw [<- hS] at c1 ⊢
 clear hS
 go_enter Tryd.func15,Tryd.ntmps15
 go_wp2_with fail
 refine (c1).calls ?_
 go_wp2_with fail
 go_ret
 exact ⟨rfl,rfl⟩
theorem run_bad (s:Nat × Nat × List UInt8) (l m:List UInt8) (c:UInt8) (h:val c = none):run s (l ++ c :: m) = none:=by
 rw [run_app]
 cases run s l with
 | none => rfl
 | some s' =>
   show run s' (c :: m) = none
   rw [run,h]
theorem run_snoc (s s':Nat × Nat × List UInt8) (l:List UInt8) (c:UInt8) (d:Nat) (h:run s l = some s') (hc:val c = some d):run s (l ++ [c]) = some (st s' d):=by
 rw [run_app,h]
 show run s' [c] = _
 rw [run,hc]
 rfl
theorem or6 (b d:Nat) (hb:b < 4096) (hd:d < 64):bits .or .i64 ((b:Int) * 64) (d:Int) = ((b * 64 + d:Nat):Int):=by
 have h:=bits_join .i64 62 (by decide) w62 6 ((b:Int) * 64) (d:Int) (by omega) (by omega) (by omega) (by omega) (by omega) (by omega)
 rw [h]
 omega
theorem and4095 (x:Nat) (h:x < 2 ^ 62):bits .and .i64 (x:Int) 4095 = ((x % 4096:Nat):Int):=by
 have h1:=bits_mask .i64 62 (by decide) w62 12 (by decide) (x:Int) (by omega) (by omega)
 rw [show ((2:Int) ^ 12 - 1) = 4095 by decide,show ((2:Int) ^ 12) = 4096 by decide] at h1
 rw [h1]
 omega
def UI (b c n j:Nat):Prop:=b < 4096 /\ (c = 0 ∨ c = 2 ∨ c = 4 ∨ c = 6) /\ n <= j
set_option maxHeartbeats 16000000 in
theorem unbase_mk (t:ByteArray) (hm:t.size <= 200000):Mak 6 #[.string t] (.tuple #[.string (bs (unbV t.data.toList).1),.bool (unbV t.data.toList).2]):=by
 intro w
 have HM:=lH hm
 obtain ⟨R,hR⟩:∃ R:ByteArray,R = bs (trimR t.data.toList):=⟨_,rfl⟩
 have hRl:trimR t.data.toList = R.data.toList:=by rw [hR,list_bs]
 have c1:=trimr_ret t (by omega) R hRl
 have HR:=lH hRl
 have hRz:R.size <= 200000:=by
   have h1:R.size = (trimR t.data.toList).length:=by rw [hRl]; rfl
   have h2:(trimR t.data.toList).length <= t.data.toList.length:=by
     have h9:=(List.dropWhile_sublist (fun x:UInt8 => x == 61) (l:=t.data.toList.reverse)).length_le
     rw [List.length_reverse] at h9
     unfold trimR
     rw [List.length_reverse]
     exact h9
   have h3:t.data.toList.length = t.size:=rfl
   omega
 have HZ:=lH hRz
 have HS0:=lH (Since.refl w)
 have HB0:Hid (BR w w (.slice none 0 0) []):=lH ⟨fun r hr => by rw [List.mem_singleton.1 hr]; exact World.ownsRow_nil _ _ _ _,by simp⟩
 clear hm hRl hR hRz
 go_enter Tryd.func6,Tryd.ntmps6
 go_wp2_with fail
 refine (c1).calls ?_
 go_wp2_with fail
 go_loopw [4,5,6,15] (fun V bt ct jt wr => ∃ (j b c:Nat) (o:List UInt8),j <= R.size /\ jt = .int .i64 (j:Int) /\ bt = .int .i64 (b:Int) /\ ct = .int .i64 (c:Int) /\ Hid (run (0,0,[]) (R.data.toList.take j) = some (b,c,o)) /\ Hid (UI b c o.length j) /\ Hid (BR w wr V o) /\ Hid (Since w wr)) (fun _ _ _ j _ => R.size - (intOf j).toNat)
 case atStart => exact ⟨0,0,0,[],Nat.zero_le _,rfl,rfl,rfl,lH rfl,lH ⟨by decide,Or.inl rfl,Nat.le_refl _⟩,HB0,HS0⟩
 case round =>
   clear HB0 HS0
   obtain ⟨j,b,c,o,hj,rfl,rfl,rfl,HRUN,HI,HB,HS⟩:=hrel
   obtain ⟨A9,c9,hV⟩:=HB.out.val
   subst hV
   by_cases hlt:j < R.size
   · obtain ⟨ch,hch⟩:∃ ch,ch = R[j]:=⟨_,rfl⟩
     have i1:(0:Int) <= (j:Int):=by omega
     have i2:(j:Int) < (R.size:Int):=by omega
     have c2:=idx_ret ch
     unfold alph at c2
     have HTS:Hid (R.data.toList.take (j + 1) = R.data.toList.take j ++ [ch]):=lH (by
       rw [hch,List.take_succ_eq_append_getElem (by simpa using hlt)]
       rfl)
     have hjb:j <= 200000:=by have:=HZ.out; omega
     cases hv:val ch with
     | none =>
       have hx:idx ch = -1:=by unfold idx; rw [hv]
       rw [hx] at c2
       have HV:Hid (unbV t.data.toList = ([],false)):=lH (by
         have h1:run (0,0,[]) (trimR t.data.toList) = none:=by
           rw [HR.out,show R.data.toList = R.data.toList.take j ++ ch :: R.data.toList.drop (j + 1) by
             rw [show R.data.toList.take j ++ ch :: R.data.toList.drop (j + 1) = (R.data.toList.take j ++ [ch]) ++ R.data.toList.drop (j + 1) by simp,<- HTS.out,List.take_append_drop]]
           exact run_bad _ _ _ _ hv
         unfold unbV candU
         rw [h1]
         rfl)
       clear hx hv HTS HB
       go_wp2_with fail
       rw [<- hch]
       refine (c2 _).mono ?_
       rintro _ w5 ⟨rfl,rfl⟩
       go_wp2_with fail
       go_ret2
       rw [HV.out]
       exact ⟨rfl,HS.out⟩
     | some d =>
       have hx:idx ch = (d:Int):=by unfold idx; rw [hv]
       rw [hx] at c2
       have hd:=val_lt hv
       have HRN:=lH (run_snoc _ _ _ _ _ HRUN.out hv)
       rw [<- HTS.out] at HRN
       obtain ⟨hb,hc,ho⟩:=HI.out
       obtain ⟨b1,hb1⟩:∃ b1,b1 = b * 64 + d:=⟨_,rfl⟩
       obtain ⟨b2,hb2⟩:∃ b2,b2 = b1 % 4096:=⟨_,rfl⟩
       have q1:bits .or .i64 ((b:Int) * 64) (d:Int) = (b1:Int):=by rw [or6 b d hb hd,hb1]
       have q2:bits .and .i64 (b1:Int) 4095 = (b2:Int):=by rw [and4095 b1 (by omega),hb2]
       have hb3:b2 < 4096:=by omega
       have hd0:(0:Int) <= (d:Int):=by omega
       have HBB:=lH (show (b * 64 + d) % 4096 = b2 by rw [hb2,hb1])
       clear hx hv HTS hb1 hb2
       go_wp2_with fail
       rw [<- hch]
       refine (c2 _).mono ?_
       rintro _ w5 ⟨rfl,rfl⟩
       clear c2
       have HOL:=lH ho
       obtain ⟨nl,hnl⟩:∃ n,n = o.length:=⟨_,rfl⟩
       have HNL:=lH hnl
       have hnb:nl <= 200000:=by omega
       rw [<- hnl] at HB ⊢
       clear hnl ho hch
       rcases hc with rfl | rfl | rfl | rfl
       · have HF:Hid (run (0,0,[]) (R.data.toList.take (j + 1)) = some (b2,6,o)):=lH (by rw [HRN.out,st0,HBB.out])
         have HI2:Hid (UI b2 6 o.length (j + 1)):=lH ⟨hb3,by omega,Nat.le_succ_of_le HOL.out⟩
         have HB2:Hid (BR w wr (.slice A9 nl c9) o):=HB
         clear HRUN HI HB HRN HBB
         go_wp2_with fail
         go_roundw
         case rel => exact ⟨j + 1,b2,6,o,by omega,by go_num,rfl,rfl,HF,HI2,HB2,HS⟩
         case measure => (simp [intOf] <;> omega)
       · obtain ⟨y,hy⟩:∃ y,y = UInt8.ofNat (b2 / 1):=⟨_,rfl⟩
         have ey:(b2:Int) % 256 = (y.toNat:Int):=by
           rw [hy,UInt8.toNat_ofNat']
           omega
         have HEY:=lH ey
         have HF:Hid (run (0,0,[]) (R.data.toList.take (j + 1)) = some (b2,0,o ++ [y])):=lH (by rw [HRN.out,st2,HBB.out,hy])
         have HI2:Hid (UI b2 0 (o ++ [y]).length (j + 1)):=lH ⟨hb3,by omega,by rw [List.length_append]; exact Nat.succ_le_succ HOL.out⟩
         have HB1:=lH (show nl + 1 <= maxLen by unfold maxLen; omega)
         have HB2:=lH (show (nl + 1) * 1 <= 140737488355328 by omega)
         have HBR:=lH (show Rw.Rows wr w.heap.size (([]:List Rw.Row) ++ ⟨5,1,.slice A9 nl c9,nl,o.map fun b => Value.int .u8 b.toNat⟩ :: []) by have h9:=HB.out; unfold BR at h9; rw [<- HNL.out] at h9; exact h9)
         clear HRUN HI HB HRN HBB hy ey
         go_wp2_with (at_builtin; refine Rw.app_rows elem8 rfl _ _ (by rfl) w wr _ rfl [] [] _ nl _ (by rfl) HBR.out HS.out #[.int .u8 ((b2:Int) % 256)] 1 1 (by rfl) rfl (b_one _) HB1.out HB2.out ?_; intro V2 w4 HQ9 HT9 _; have HQ:=lH HQ9; have HT:=lH HT9; clear HQ9 HT9)
         have HBF:Hid (BR w w4 V2 (o ++ [y])):=lH (BR.app y (by
           have h9:=HQ.out
           rw [HEY.out] at h9
           rw [<- HNL.out]
           exact h9))
         clear HQ HBR HB1 HB2 HNL HEY
         go_wp2_with fail
         go_roundw
         case rel => exact ⟨j + 1,b2,0,o ++ [y],by omega,by go_num,rfl,rfl,HF,HI2,HBF,HT⟩
         case measure => (simp [intOf] <;> omega)
       · obtain ⟨y,hy⟩:∃ y,y = UInt8.ofNat (b2 / 4):=⟨_,rfl⟩
         have ey:(b2:Int) / 4 % 256 = (y.toNat:Int):=by
           rw [hy,UInt8.toNat_ofNat']
           omega
         have HEY:=lH ey
         have HF:Hid (run (0,0,[]) (R.data.toList.take (j + 1)) = some (b2,2,o ++ [y])):=lH (by rw [HRN.out,st4,HBB.out,hy])
         have HI2:Hid (UI b2 2 (o ++ [y]).length (j + 1)):=lH ⟨hb3,by omega,by rw [List.length_append]; exact Nat.succ_le_succ HOL.out⟩
         have HB1:=lH (show nl + 1 <= maxLen by unfold maxLen; omega)
         have HB2:=lH (show (nl + 1) * 1 <= 140737488355328 by omega)
         have HBR:=lH (show Rw.Rows wr w.heap.size (([]:List Rw.Row) ++ ⟨5,1,.slice A9 nl c9,nl,o.map fun b => Value.int .u8 b.toNat⟩ :: []) by have h9:=HB.out; unfold BR at h9; rw [<- HNL.out] at h9; exact h9)
         clear HRUN HI HB HRN HBB hy ey
         go_wp2_with (at_builtin; refine Rw.app_rows elem8 rfl _ _ (by rfl) w wr _ rfl [] [] _ nl _ (by rfl) HBR.out HS.out #[.int .u8 ((b2:Int) / 4 % 256)] 1 1 (by rfl) rfl (b_one _) HB1.out HB2.out ?_; intro V2 w4 HQ9 HT9 _; have HQ:=lH HQ9; have HT:=lH HT9; clear HQ9 HT9)
         have HBF:Hid (BR w w4 V2 (o ++ [y])):=lH (BR.app y (by
           have h9:=HQ.out
           rw [HEY.out] at h9
           rw [<- HNL.out]
           exact h9))
         clear HQ HBR HB1 HB2 HNL HEY
         go_wp2_with fail
         go_roundw
         case rel => exact ⟨j + 1,b2,2,o ++ [y],by omega,by go_num,rfl,rfl,HF,HI2,HBF,HT⟩
         case measure => (simp [intOf] <;> omega)
       · obtain ⟨y,hy⟩:∃ y,y = UInt8.ofNat (b2 / 16):=⟨_,rfl⟩
         have ey:(b2:Int) / 16 = (y.toNat:Int):=by
           rw [hy,UInt8.toNat_ofNat']
           omega
         have HEY:=lH ey
         have HF:Hid (run (0,0,[]) (R.data.toList.take (j + 1)) = some (b2,4,o ++ [y])):=lH (by rw [HRN.out,st6,HBB.out,hy])
         have HI2:Hid (UI b2 4 (o ++ [y]).length (j + 1)):=lH ⟨hb3,by omega,by rw [List.length_append]; exact Nat.succ_le_succ HOL.out⟩
         have HB1:=lH (show nl + 1 <= maxLen by unfold maxLen; omega)
         have HB2:=lH (show (nl + 1) * 1 <= 140737488355328 by omega)
         have HBR:=lH (show Rw.Rows wr w.heap.size (([]:List Rw.Row) ++ ⟨5,1,.slice A9 nl c9,nl,o.map fun b => Value.int .u8 b.toNat⟩ :: []) by have h9:=HB.out; unfold BR at h9; rw [<- HNL.out] at h9; exact h9)
         clear HRUN HI HB HRN HBB hy ey
         go_wp2_with (at_builtin; refine Rw.app_rows elem8 rfl _ _ (by rfl) w wr _ rfl [] [] _ nl _ (by rfl) HBR.out HS.out #[.int .u8 ((b2:Int) / 16)] 1 1 (by rfl) rfl (b_one _) HB1.out HB2.out ?_; intro V2 w4 HQ9 HT9 _; have HQ:=lH HQ9; have HT:=lH HT9; clear HQ9 HT9)
         have HBF:Hid (BR w w4 V2 (o ++ [y])):=lH (BR.app y (by
           have h9:=HQ.out
           rw [HEY.out] at h9
           rw [<- HNL.out]
           exact h9))
         clear HQ HBR HB1 HB2 HNL HEY
         go_wp2_with fail
         go_roundw
         case rel => exact ⟨j + 1,b2,4,o ++ [y],by omega,by go_num,rfl,rfl,HF,HI2,HBF,HT⟩
         case measure => (simp [intOf] <;> omega)
   · obtain rfl:j = R.size:=by omega
     have hca:candU t.data.toList = some o:=by
       have h9:=HRUN.out
       rw [List.take_of_length_le (by exact Nat.le_refl _)] at h9
       unfold candU
       rw [HR.out,h9]
       rfl
     have HCA:=lH hca
     have hcv:=conv_l HB.out
     obtain ⟨X,hX⟩:∃ X,X = bs o:=⟨_,rfl⟩
     rw [<- hX] at hcv
     have hXl:X.data.toList = o:=by rw [hX,list_bs]
     have c3:=base_mk X (by
       have h1:X.size = o.length:=by rw [<- hXl]; rfl
       have h2:=HI.out.2.2
       have h3:=HZ.out
       omega)
     rw [hXl] at c3
     obtain ⟨Y,hY⟩:∃ Y,Y = bs (baseL o):=⟨_,rfl⟩
     rw [<- hY] at c3
     have HXX:=lH hX
     by_cases hq:baseL o = t.data.toList
     · have q1:(Y.toList == t.toList) = true:=by
         rw [toList_d,toList_d,hY,list_bs]
         exact beq_iff_eq.2 hq
       have HV:Hid (unbV t.data.toList = (o,true)):=lH (by
         unfold unbV
         rw [HCA.out]
         exact if_pos hq)
       clear hca hXl hX hY hq HI HRUN HB
       go_wp2_with fail
       refine c3.calls0 ?_
       intro w5 h5
       have HS5:=lH (HS.out.step h5)
       clear h5 hcv
       go_wp2_with fail
       go_ret2
       rw [HV.out,HXX.out]
       exact ⟨rfl,HS5.out⟩
     · have q1:(Y.toList == t.toList) = false:=by
         rw [toList_d,toList_d,hY,list_bs]
         exact beq_eq_false_iff_ne.2 hq
       have HV:Hid (unbV t.data.toList = ([],false)):=lH (by
         unfold unbV
         rw [HCA.out]
         exact if_neg hq)
       clear hca hXl hX hY hq HI HRUN HB
       go_wp2_with fail
       refine c3.calls0 ?_
       intro w5 h5
       have HS5:=lH (HS.out.step h5)
       clear h5 hcv
       go_wp2_with fail
       go_ret2
       rw [HV.out]
       exact ⟨rfl,HS5.out⟩
end Pm
namespace Pm
open RefOct (low)
theorem val_sg (c:UInt8) (h:∀ d,d < 64 -> sg d ≠ c):val c = none:=by
 unfold val
 rw [List.find?_eq_none]
 intro d hd
 have:=h d (List.mem_range.1 hd)
 simpa using this
theorem place_ret (c:UInt8):Ret 16 #[.int .u8 (c.toNat:Int)] (.int .i64 (idx c)):=by
 intro w
 obtain ⟨I,hI⟩:∃ I,I = idx c:=⟨_,rfl⟩
 rw [<- hI]
 have HI:=lH hI
 clear hI
 go_enter Tryd.func16,Tryd.ntmps16
 go_wp2
 go_loop [3] (fun i => ∃ k:Nat,k <= 64 /\ i = .int .i64 (k:Int) /\ Hid (∀ j,j < k -> sg j ≠ c)) (fun i => 64 - (intOf i).toNat)
 case atStart => exact ⟨0,by decide,rfl,lH (fun j hj => absurd hj (Nat.not_lt_zero _))⟩
 case round =>
   obtain ⟨k,hk,rfl,HA⟩:=hrel
   by_cases hlt:k < 64
   · have ha:=alph_at k hlt
     unfold alph at ha
     have i1:(0:Int) <= (k:Int):=by omega
     have i2:(k:Int) < 64:=by omega
     obtain ⟨cc,hcc⟩:∃ cc,cc = sg k:=⟨_,rfl⟩
     rw [<- hcc] at ha
     by_cases hc:cc = c
     · have q1:((cc.toNat:Int) == (c.toNat:Int)) = true:=by rw [hc]; exact beq_self_eq_true _
       have hIk:I = (k:Int):=by
         rw [HI.out,<- hc,hcc]
         unfold idx
         rw [(val_all k hlt).1]
       subst hIk
       clear hcc hc
       go_wp2_with fail
       go_ret
       exact ⟨rfl,rfl⟩
     · have q1:((cc.toNat:Int) == (c.toNat:Int)) = false:=beq_eq_false_iff_ne.2 (fun h => hc (UInt8.toNat_inj.1 (by omega)))
       have HA2:Hid (∀ j,j < k + 1 -> sg j ≠ c):=lH (fun j hj => by
         rcases (show j < k ∨ j = k by omega) with h | h
         · exact HA.out j h
         · rw [h,<- hcc]; exact hc)
       clear hcc hc
       go_wp2_with fail
       go_round
       case rel => exact ⟨k + 1,by omega,by go_num,HA2⟩
       case measure => (simp [intOf] <;> omega)
   · obtain rfl:k = 64:=by omega
     have hI2:I = -1:=by
       rw [HI.out]
       unfold idx
       rw [val_sg c HA.out]
     subst hI2
     go_wp2_with fail
     go_ret
     exact ⟨rfl,rfl⟩
def nmL (l:List UInt8):Nat:=l.foldl (fun x c => 64 * x + plc c) 0
def flL (l:List UInt8):Nat:=l.foldl (fun n c => n + fil c) 0
theorem nm_snoc (l:List UInt8) (c:UInt8):nmL (l ++ [c]) = 64 * nmL l + plc c:=by unfold nmL; rw [List.foldl_append]; rfl
theorem fl_snoc (l:List UInt8) (c:UInt8):flL (l ++ [c]) = flL l + fil c:=by unfold flL; rw [List.foldl_append]; rfl
theorem four_of (l:List UInt8) (h:l.length = 4):∃ a b c d,l = [a,b,c,d]:=by
 match l,h with
 | [a,b,c,d],_ => exact ⟨a,b,c,d,rfl⟩
theorem nm_four (a b c d:UInt8):nmL [a,b,c,d] = num4 a b c d:=by
 show 64 * (64 * (64 * (64 * 0 + plc a) + plc b) + plc c) + plc d = _
 unfold num4
 omega
theorem fl_four (a b c d:UInt8):flL [a,b,c,d] = fils a b c d:=by
 show 0 + fil a + fil b + fil c + fil d = _
 unfold fils
 omega
theorem rcU_bad (l:List UInt8) (p k:Nat) (a b c d:UInt8) (hp:p = 4 * k) (hl:p + 4 <= l.length) (h4:(l.drop p).take 4 = [a,b,c,d]) (hf:3 <= fils a b c d):rcU l = none:=by
 have e:l = l.take p ++ (a :: b :: c :: d :: l.drop (p + 4)):=by
   have h1:a :: b :: c :: d :: l.drop (p + 4) = (l.drop p).take 4 ++ (l.drop p).drop 4:=by rw [h4,List.drop_drop]; rfl
   rw [h1,List.take_append_drop,List.take_append_drop]
 rw [e,rcU_app k _ _ (by rw [List.length_take]; omega)]
 rw [rcU,if_pos hf]
 cases rcU (l.take p) <;> rfl
theorem rcU_next (l:List UInt8) (p k:Nat) (a b c d:UInt8) (o:List UInt8) (hp:p = 4 * k) (hl:p + 4 <= l.length) (h4:(l.drop p).take 4 = [a,b,c,d]) (hf:¬ 3 <= fils a b c d) (ho:rcU (l.take p) = some o):rcU (l.take (p + 4)) = some (o ++ grpR a b c d):=by
 rw [List.take_add,h4,rcU_app k _ _ (by rw [List.length_take]; omega),ho,rcU,if_neg hf,rcU]
 simp
theorem sz_bs (o:List UInt8):(bs o).size = o.length:=by
 show (bs o).data.toList.length = _
 rw [list_bs]
theorem pow4 (k:Nat) (h:k <= 4):64 ^ k <= 16777216:=Nat.le_trans (Nat.pow_le_pow_right (by decide) h) (by decide)
set_option maxHeartbeats 16000000 in
theorem runbase_mk (t:ByteArray) (hm:t.size <= 200000):Mak 7 #[.string t] (.tuple #[.string (bs (unbV t.data.toList).1),.bool (unbV t.data.toList).2]):=by
 intro w
 have HM:=lH hm
 obtain ⟨l,hl⟩:∃ l,l = t.data.toList:=⟨_,rfl⟩
 have HL:=lH hl
 have HLN:=lH (show l.length = t.size by rw [hl]; rfl)
 rw [<- hl,<- rub_eq]
 have HS0:=lH (Since.refl w)
 clear hl
 by_cases h4:t.size % 4 = 0
 · have q1:((t.size:Int) % 4 == 0) = true:=by rw [beq_iff_eq]; omega
   have q2:((t.size:Int) % 4 != 0) = false:=by rw [bne,q1]; rfl
   have H4:=lH h4
   have HRV:Hid (rub l = match rcU l with
     | none => ([],false)
     | some s => if baseL s = l then (s,true) else ([],false)):=lH (by unfold rub; rw [if_neg (by rw [HLN.out]; omega)]; cases rcU l <;> rfl)
   clear h4
   go_enter Tryd.func7,Tryd.ntmps7
   go_wp2_with fail
   go_loopw [4,5] (fun o i wr => ∃ (p j:Nat) (O:ByteArray),p = 4 * j /\ i = .int .i64 (p:Int) /\ Hid (p <= t.size) /\ o = .string O /\ Hid (rcU (l.take p) = some O.data.toList) /\ Hid (O.size <= p) /\ Hid (Since w wr)) (fun _ i _ => t.size - (intOf i).toNat)
   case atStart => exact ⟨0,0,⟨#[]⟩,rfl,rfl,lH (Nat.zero_le _),rfl,lH (by rw [List.take_zero,rcU]),lH (Nat.zero_le _),HS0⟩
   case round =>
     clear HS0
     obtain ⟨p,j,O,hp,rfl,HP,rfl,HO,HOZ,HS⟩:=hrel
     have HPJ:=lH hp
     have hpb:p <= 200000:=by have:=HP.out; omega
     by_cases hlt:p < t.size
     · have HP4:Hid (p + 4 <= t.size):=lH (by have:=H4.out; omega)
       obtain ⟨a,b,c,d,hg⟩:=four_of ((l.drop p).take 4) (by rw [List.length_take,List.length_drop,HLN.out]; have:=HP4.out; omega)
       have HGP:=lH hg
       clear hp hg
       go_wp2_with fail
       go_loopw [6,7,8] (fun x n i wr => ∃ (k X F:Nat),k <= 4 /\ F <= k /\ i = .int .i64 (k:Int) /\ x = .int .i64 (X:Int) /\ n = .int .i64 (3 - (F:Int)) /\ Hid (X = nmL ((l.drop p).take k)) /\ Hid (F = flL ((l.drop p).take k)) /\ Hid (X < 64 ^ k) /\ Hid (Since w wr)) (fun _ _ i _ => 4 - (intOf i).toNat)
       case atStart => exact ⟨0,0,0,by decide,by decide,rfl,rfl,rfl,lH rfl,lH rfl,lH (by decide),HS⟩
       case round =>
         clear HS
         obtain ⟨k,X,F,hk,hF,rfl,rfl,rfl,HX,HF,HXB,HS⟩:=hrel
         by_cases hk4:k < 4
         · obtain ⟨q,hq⟩:∃ q,q = p + k:=⟨_,rfl⟩
           have hqt:q < t.size:=by have:=HP4.out; omega
           have e1:IntKind.i64.wrap ((p:Int) + (k:Int)) = (q:Int):=by rw [IntWalk.i64_in _ (by omega)]; omega
           have e2:(p:Int) + (k:Int) = (q:Int):=by omega
           have i1:(0:Int) <= (q:Int):=by omega
           have i2:(q:Int) < (t.size:Int):=by omega
           obtain ⟨ch,hch⟩:∃ ch,ch = t[q]:=⟨_,rfl⟩
           have HTK:Hid ((l.drop p).take (k + 1) = (l.drop p).take k ++ [ch]):=lH (by
             rw [List.take_succ_eq_append_getElem (by rw [List.length_drop,HLN.out]; omega),List.getElem_drop,hch]
             congr 2
             have h1:l[p + k]? = t.data.toList[q]? := by rw [HL.out,hq]
             rw [List.getElem?_eq_getElem (by rw [HLN.out]; omega),List.getElem?_eq_getElem hqt] at h1
             exact Option.some.inj h1)
           have c2:=place_ret ch
           have hXb:X < 16777216:=Nat.lt_of_lt_of_le HXB.out (pow4 k hk)
           clear hq
           cases hv:val ch with
           | none =>
             have hx:idx ch = -1:=by unfold idx; rw [hv]
             rw [hx] at c2
             clear hx
             have HX2:Hid (64 * X + 0 = nmL ((l.drop p).take (k + 1))):=lH (by rw [HTK.out,nm_snoc,<- HX.out]; unfold plc; rw [hv]; rfl)
             have HF2:Hid (F + 1 = flL ((l.drop p).take (k + 1))):=lH (by rw [HTK.out,fl_snoc,<- HF.out]; unfold fil; rw [hv]; rfl)
             have HXB2:Hid (64 * X + 0 < 64 ^ (k + 1)):=lH (by rw [Nat.pow_succ]; have:=HXB.out; omega)
             have hxx:64 * X + 0 < 16777216:=Nat.lt_of_lt_of_le HXB2.out (pow4 (k + 1) hk4)
             clear hv HX HF HXB HTK
             go_wp2_with fail
             rw [<- hch]
             refine (c2 _).mono ?_
             rintro _ w5 ⟨rfl,rfl⟩
             clear hch
             go_wp2_with fail
             go_roundw
             case rel => exact ⟨k + 1,64 * X + 0,F + 1,hk4,by omega,by go_num,by go_num,by go_num,HX2,HF2,HXB2,HS⟩
             case measure => (simp [intOf] <;> omega)
           | some dd =>
             have hx:idx ch = (dd:Int):=by unfold idx; rw [hv]
             rw [hx] at c2
             have hdd:=val_lt hv
             clear hx
             have HX2:Hid (64 * X + dd = nmL ((l.drop p).take (k + 1))):=lH (by rw [HTK.out,nm_snoc,<- HX.out]; unfold plc; rw [hv]; rfl)
             have HF2:Hid (F + 0 = flL ((l.drop p).take (k + 1))):=lH (by rw [HTK.out,fl_snoc,<- HF.out]; unfold fil; rw [hv]; rfl)
             have HXB2:Hid (64 * X + dd < 64 ^ (k + 1)):=lH (by rw [Nat.pow_succ]; have:=HXB.out; omega)
             have hxx:64 * X + dd < 16777216:=Nat.lt_of_lt_of_le HXB2.out (pow4 (k + 1) hk4)
             clear hv HX HF HXB HTK
             go_wp2_with fail
             rw [<- hch]
             refine (c2 _).mono ?_
             rintro _ w5 ⟨rfl,rfl⟩
             clear hch
             go_wp2_with fail
             go_roundw
             case rel => exact ⟨k + 1,64 * X + dd,F + 0,hk4,by omega,by go_num,by go_num,by go_num,HX2,HF2,HXB2,HS⟩
             case measure => (simp [intOf] <;> omega)
         · obtain rfl:k = 4:=by omega
           have HNM:Hid (num4 a b c d = X):=lH (by rw [HX.out,HGP.out,nm_four])
           have HFL:Hid (fils a b c d = F):=lH (by rw [HF.out,HGP.out,fl_four])
           have hXb:X < 16777216:=HXB.out
           clear HX HF HXB
           by_cases h3:3 <= F
           · have HV:Hid (rub l = ([],false)):=lH (by
               rw [HRV.out,rcU_bad l p j a b c d HPJ.out (by rw [HLN.out]; exact HP4.out) HGP.out (by rw [HFL.out]; exact h3)])
             have t1:decide (3 - (F:Int) < 1) = true:=decide_eq_true (by omega)
             clear HFL HNM
             go_wp2_with fail
             go_ret2
             rw [HV.out]
             exact ⟨rfl,HS.out⟩
           · rcases (show F = 0 ∨ F = 1 ∨ F = 2 by omega) with rfl | rfl | rfl
             · have HGR:Hid (grpR a b c d = (low (X:Nat) 3).take 3):=lH (by unfold grpR; rw [HNM.out,HFL.out])
               obtain ⟨Y,hY⟩:∃ Y,Y = bs (low (X:Nat) 3):=⟨_,rfl⟩
               have HY:=lH hY
               have hYz:Y.size = 3:=by rw [hY,sz_bs,RefOct.low_len]
               have c3:Mak 17 #[.int .u64 (X:Int),.int .i64 3] (.string Y):=fun w => by rw [hY]; exact RefOct.put_mid (X:Int) 3 w (by omega) (by omega) (by decide) (by decide)
               have HF3:Hid (rcU (l.take (p + 4)) = some (O ++ Y.extract 0 3).data.toList):=lH (by
                 rw [rcU_next l p j a b c d O.data.toList HPJ.out (by rw [HLN.out]; exact HP4.out) HGP.out (by rw [HFL.out]; decide) HO.out,HGR.out,app_list,ext_list,HY.out,list_bs]
                 rfl)
               have HOZ2:Hid ((O ++ Y.extract 0 3).size <= p + 4):=lH (by rw [ByteArray.size_append,ByteArray.size_extract]; have:=HOZ.out; omega)
               have z1:¬ 9223372036854775807 < O.size + (Y.extract 0 3).size:=by rw [ByteArray.size_extract]; have:=HOZ.out; omega
               have z2:(3:Int) <= (Y.size:Int):=by omega
               have z3:3 <= Y.size:=by omega
               have z4:decide ((3:Int) <= (Y.size:Int)) = true:=decide_eq_true z2
               have HPN:=lH (show p + 4 = 4 * (j + 1) by rw [HPJ.out]; omega)
               clear hY hYz HGR HNM HFL
               go_wp2_with fail
               refine c3.calls0 ?_
               intro w6 h6
               have HS6:=lH (HS.out.step h6)
               clear h6
               go_wp2_with fail
               go_roundw
               case rel => exact ⟨p + 4,j + 1,_,HPN.out,by go_num,HP4,rfl,HF3,HOZ2,HS6⟩
               case measure => (simp [intOf] <;> omega)
             · have HGR:Hid (grpR a b c d = (low (X:Nat) 3).take 2):=lH (by unfold grpR; rw [HNM.out,HFL.out])
               obtain ⟨Y,hY⟩:∃ Y,Y = bs (low (X:Nat) 3):=⟨_,rfl⟩
               have HY:=lH hY
               have hYz:Y.size = 3:=by rw [hY,sz_bs,RefOct.low_len]
               have c3:Mak 17 #[.int .u64 (X:Int),.int .i64 3] (.string Y):=fun w => by rw [hY]; exact RefOct.put_mid (X:Int) 3 w (by omega) (by omega) (by decide) (by decide)
               have HF3:Hid (rcU (l.take (p + 4)) = some (O ++ Y.extract 0 2).data.toList):=lH (by
                 rw [rcU_next l p j a b c d O.data.toList HPJ.out (by rw [HLN.out]; exact HP4.out) HGP.out (by rw [HFL.out]; decide) HO.out,HGR.out,app_list,ext_list,HY.out,list_bs]
                 rfl)
               have HOZ2:Hid ((O ++ Y.extract 0 2).size <= p + 4):=lH (by rw [ByteArray.size_append,ByteArray.size_extract]; have:=HOZ.out; omega)
               have z1:¬ 9223372036854775807 < O.size + (Y.extract 0 2).size:=by rw [ByteArray.size_extract]; have:=HOZ.out; omega
               have z2:(2:Int) <= (Y.size:Int):=by omega
               have z3:2 <= Y.size:=by omega
               have z4:decide ((2:Int) <= (Y.size:Int)) = true:=decide_eq_true z2
               have HPN:=lH (show p + 4 = 4 * (j + 1) by rw [HPJ.out]; omega)
               clear hY hYz HGR HNM HFL
               go_wp2_with fail
               refine c3.calls0 ?_
               intro w6 h6
               have HS6:=lH (HS.out.step h6)
               clear h6
               go_wp2_with fail
               go_roundw
               case rel => exact ⟨p + 4,j + 1,_,HPN.out,by go_num,HP4,rfl,HF3,HOZ2,HS6⟩
               case measure => (simp [intOf] <;> omega)
             · have HGR:Hid (grpR a b c d = (low (X:Nat) 3).take 1):=lH (by unfold grpR; rw [HNM.out,HFL.out])
               obtain ⟨Y,hY⟩:∃ Y,Y = bs (low (X:Nat) 3):=⟨_,rfl⟩
               have HY:=lH hY
               have hYz:Y.size = 3:=by rw [hY,sz_bs,RefOct.low_len]
               have c3:Mak 17 #[.int .u64 (X:Int),.int .i64 3] (.string Y):=fun w => by rw [hY]; exact RefOct.put_mid (X:Int) 3 w (by omega) (by omega) (by decide) (by decide)
               have HF3:Hid (rcU (l.take (p + 4)) = some (O ++ Y.extract 0 1).data.toList):=lH (by
                 rw [rcU_next l p j a b c d O.data.toList HPJ.out (by rw [HLN.out]; exact HP4.out) HGP.out (by rw [HFL.out]; decide) HO.out,HGR.out,app_list,ext_list,HY.out,list_bs]
                 rfl)
               have HOZ2:Hid ((O ++ Y.extract 0 1).size <= p + 4):=lH (by rw [ByteArray.size_append,ByteArray.size_extract]; have:=HOZ.out; omega)
               have z1:¬ 9223372036854775807 < O.size + (Y.extract 0 1).size:=by rw [ByteArray.size_extract]; have:=HOZ.out; omega
               have z2:(1:Int) <= (Y.size:Int):=by omega
               have z3:1 <= Y.size:=by omega
               have z4:decide ((1:Int) <= (Y.size:Int)) = true:=decide_eq_true z2
               have HPN:=lH (show p + 4 = 4 * (j + 1) by rw [HPJ.out]; omega)
               clear hY hYz HGR HNM HFL
               go_wp2_with fail
               refine c3.calls0 ?_
               intro w6 h6
               have HS6:=lH (HS.out.step h6)
               clear h6
               go_wp2_with fail
               go_roundw
               case rel => exact ⟨p + 4,j + 1,_,HPN.out,by go_num,HP4,rfl,HF3,HOZ2,HS6⟩
               case measure => (simp [intOf] <;> omega)
     · obtain rfl:p = t.size:=by have:=HP.out; omega
       have HO2:Hid (rcU l = some O.data.toList):=lH (by
         rw [<- HO.out,List.take_of_length_le (by rw [HLN.out]; exact Nat.le_refl _)])
       have c3:=rbase_mk O (by have:=HOZ.out; omega)
       obtain ⟨Y,hY⟩:∃ Y,Y = bs (baseL O.data.toList):=⟨_,rfl⟩
       rw [<- hY] at c3
       clear hp HO
       by_cases hq:baseL O.data.toList = l
       · have q3:(Y.toList == t.toList) = true:=by
           rw [toList_d,toList_d,hY,list_bs,<- HL.out]
           exact beq_iff_eq.2 hq
         have HV:Hid (rub l = (O.data.toList,true)):=lH (by
           rw [HRV.out,HO2.out]
           exact if_pos hq)
         have HBO:Hid (bs O.data.toList = O):=lH (ba_ext (list_bs _))
         clear hY hq
         go_wp2_with fail
         refine c3.calls0 ?_
         intro w5 h5
         have HS5:=lH (HS.out.step h5)
         clear h5
         go_wp2_with fail
         go_ret2
         rw [HV.out,HBO.out]
         exact ⟨rfl,HS5.out⟩
       · have q3:(Y.toList == t.toList) = false:=by
           rw [toList_d,toList_d,hY,list_bs,<- HL.out]
           exact beq_eq_false_iff_ne.2 hq
         have HV:Hid (rub l = ([],false)):=lH (by
           rw [HRV.out,HO2.out]
           exact if_neg hq)
         clear hY hq
         go_wp2_with fail
         refine c3.calls0 ?_
         intro w5 h5
         have HS5:=lH (HS.out.step h5)
         clear h5
         go_wp2_with fail
         go_ret2
         rw [HV.out]
         exact ⟨rfl,HS5.out⟩
 · have q1:((t.size:Int) % 4 == 0) = false:=beq_eq_false_iff_ne.2 (by omega)
   have q2:((t.size:Int) % 4 != 0) = true:=by rw [bne,q1]; rfl
   have HV:Hid (rub l = ([],false)):=lH (by unfold rub; rw [if_pos (by rw [HLN.out]; exact h4)])
   go_enter Tryd.func7,Tryd.ntmps7
   go_wp2_with fail
   go_ret2
   rw [HV.out]
   exact ⟨rfl,HS0.out⟩
end Pm
end Go.Proofs.YtagmgldibjjeeaaDoor
