import Derived.Test.YtddlaafpianjbaaGreatDoorBo16
import Derived.BigQuiet
set_option maxRecDepth 100000
namespace Go.Proofs.YtddlaafpianjbaaGreatDoor
open Go.RowKit
namespace Eql
def df (a b:List UInt8) (i:Nat):Nat:=if i < a.length /\ i < b.length then (a.getD i 0).toNat ^^^ (b.getD i 0).toNat else 255
theorem df_lt (a b:List UInt8) (i:Nat):df a b i < 256:=by
 unfold df; split
 · exact Nat.xor_lt_two_pow (n:=8) (a.getD i 0).toNat_lt (b.getD i 0).toNat_lt
 · omega
def unl (a b:List UInt8):Nat -> Nat
 | 0 => 0
 | n+1 => unl a b n + if df a b n = 0 then 0 else 1
def fst (a b:List UInt8):Nat -> Int
 | 0 => -1
 | n+1 => if df a b n ≠ 0 /\ fst a b n < 0 then (n:Int) else fst a b n
set_option maxHeartbeats 1000000 in
theorem each_scan (a b:ByteArray) (n:Nat) (hn:n = max a.size b.size) (hm:a.size <= 140737488355328) (hm2:b.size <= 140737488355328) (c1 c2:Value) (Inv:Nat -> World -> Prop) (hdr:∀ i w,Inv i w -> Inv i w.drew)
   (hs:∀ i w,i < n -> Inv i w -> Calls Tryz.prog 169 #[.int .i64 (i:Int),.int .u8 ((df a.data.toList b.data.toList i:Nat):Int),c1,c2] w fun e w' => e = .returned (.tuple #[]) /\ Inv (i + 1) w') (w:World) (h0:Inv 0 w) :
   Calls Tryz.prog 168 #[.string a,.string b,.func (.func 169) #[] #[c1,c2]] w fun e w' => e = .returned (.tuple #[]) /\ Inv n w':=by
 have hmax:max (a.size:Int) (b.size:Int) = (n:Int):=by omega
 have hna:a.size <= n:=by omega
 have hnb:b.size <= n:=by omega
 have hmx:n <= 140737488355328:=by omega
 have H0:=lH h0
 have Hn:=lH hn
 clear hn
 have Hdr:=lH hdr
 clear hdr
 have Hs:=lH hs
 clear hs
 clear h0
 go_enter Tryz.func168,Tryz.ntmps168
 go_wp2_with fail
 go_loopw [12] (fun i wr => ∃ k:Nat,k <= n /\ i = .int .i64 (k:Int) /\ Hid (Inv k wr)) (fun i _ => n - (intOf i).toNat)
 case atStart => exact ⟨0,by omega,rfl,H0⟩
 case round =>
   obtain ⟨k,hk,rfl,HI⟩:=hrel
   clear hmax
   by_cases hlt:k < n
   · by_cases hka:k < a.size
     · by_cases hkb:k < b.size
       · have hd:bits .xor .u8 ((a[k].toNat:Nat):Int) ((b[k].toNat:Nat):Int) = ((df a.data.toList b.data.toList k:Nat):Int):=by
           unfold df
           rw [if_pos ⟨hka,hkb⟩,show a.data.toList.getD k 0 = a[k] from by simp [List.getD,List.getElem?_eq_getElem (show k < a.data.toList.length from hka)]; rfl,show b.data.toList.getD k 0 = b[k] from by simp [List.getD,List.getElem?_eq_getElem (show k < b.data.toList.length from hkb)]; rfl]
           exact u8_xor_nat _ _ a[k].toNat_lt b[k].toNat_lt
         have Hd:=lH hd
         clear hd
         go_wp2_with fail
         go_region_with ((rw [Hd.out]; refine (Hs.out k _ hlt (Hdr.out _ _ HI.out)).mono ?_; rintro e w2 ⟨rfl,hI2⟩; have HI2:=lH hI2; clear hI2))
         all_goals
           go_wp2_with fail
           go_roundw
           case rel => exact ⟨k + 1,by omega,by go_num,HI2⟩
           case measure => simp [intOf]; omega
       · have hd:df a.data.toList b.data.toList k = 255:=by unfold df; rw [if_neg (fun h => hkb h.2)]
         have hc:=Hs.out k wr hlt HI.out
         rw [hd] at hc
         have Hd:=lH hd
         clear hd
         have Hc:=lH hc
         clear hc
         go_wp2_with fail
         refine Hc.out.mono ?_
         rintro e w2 ⟨rfl,hI2⟩
         have HI2:=lH hI2
         clear hI2
         go_wp2_with fail
         go_roundw
         case rel => exact ⟨k + 1,by omega,by go_num,HI2⟩
         case measure => simp [intOf]; omega
     · have hd:df a.data.toList b.data.toList k = 255:=by unfold df; rw [if_neg (fun h => hka h.1)]
       have hc:=Hs.out k wr hlt HI.out
       rw [hd] at hc
       have Hd:=lH hd
       clear hd
       have Hc:=lH hc
       clear hc
       go_wp2_with fail
       refine Hc.out.mono ?_
       rintro e w2 ⟨rfl,hI2⟩
       have HI2:=lH hI2
       clear hI2
       go_wp2_with fail
       go_roundw
       case rel => exact ⟨k + 1,by omega,by go_num,HI2⟩
       case measure => simp [intOf]; omega
   · obtain rfl:k = n:=by omega
     go_wp2_with fail
     go_end0
     exact ⟨rfl,HI.out⟩
end Eql
namespace Eql
def Cnt (w:World) (B:Nat) (c:Int):Prop:=w.rowIs B 3 1 (fun _ => .int .i64 c)
def orA (a b:List UInt8) (j:Nat):Nat -> Nat
 | 0 => 0
 | n+1 => if n % 16 = j then orA a b j n ||| df a b n else orA a b j n
theorem orA_lt (a b:List UInt8) (j n:Nat):orA a b j n < 256:=by
 induction n with
 | zero => unfold orA; omega
 | succ n ih =>
   unfold orA; split
   · exact Nat.or_lt_two_pow (n:=8) ih (df_lt a b n)
   · exact ih
theorem or_zero (x y:Nat):x ||| y = 0 ↔ x = 0 /\ y = 0:=Nat.or_eq_zero_iff
theorem orA_zero (a b:List UInt8) (n:Nat):(∀ j,j < 16 -> orA a b j n = 0) ↔ unl a b n = 0:=by
 induction n with
 | zero => exact ⟨fun _ => rfl,fun _ _ _ => rfl⟩
 | succ n ih =>
   constructor
   · intro h
     have h1:unl a b n = 0:=ih.1 fun j hj => by
       have h2:=h j hj
       unfold orA at h2
       split at h2
       · exact (or_zero _ _).1 h2 |>.1
       · exact h2
     have h3:=h (n % 16) (Nat.mod_lt _ (by decide))
     unfold orA at h3
     rw [if_pos rfl] at h3
     have h4:=((or_zero _ _).1 h3).2
     unfold unl
     rw [h1,if_pos h4]
   · intro h j hj
     unfold unl at h
     have h1:unl a b n = 0:=by omega
     have h2:df a b n = 0:=by
       apply Classical.byContradiction
       intro h3
       rw [if_neg h3] at h
       omega
     unfold orA
     rw [ih.2 h1 j hj,h2]
     split <;> rfl
def Bits (w:World) (B:Nat) (f:Nat -> Nat):Prop:=w.rowIs B 158 16 (fun j => .int .u8 (f j:Nat))
set_option maxHeartbeats 1000000 in
theorem scan1 (i d B c:Nat) (f g:Nat -> Nat) (w w0:World) (hf:Bits w B f) (h:Cnt w (B + 1) c) (hi:i <= 140737488355328) (hc:c <= 140737488355328) (hd:d < 256) (hf2:∀ j,f j < 256) (hB:w0.heap.size <= B) (hs:Since w0 w)
   (hg:∀ j,g j = if i % 16 = j then f j ||| d else f j) :
   Calls Tryz.prog 169 #[.int .i64 (i:Int),.int .u8 (d:Int),.pointer (some ⟨B,0,none⟩),.pointer (some ⟨B + 1,0,none⟩)] w fun e w' => e = .returned (.tuple #[]) /\ (Bits w' B g /\ Cnt w' (B + 1) (c + 1:Nat)) /\ Since w0 w':=by
 obtain ⟨r,hr⟩:∃ r,r = i % 16:=⟨_,rfl⟩
 have hr2:r < 16:=by omega
 have hri:(i:Int) % 16 = (r:Int):=by omega
 rw [<- hr] at hg
 have hcell:=World.rowIs.cell h (i:=0) (by decide)
 have hfr:=World.rowIs.frozen h 0
 have hcell2:=World.rowIs.cell hf (i:=r) hr2
 have hfr2:=World.rowIs.frozen hf r
 have ho:bits .or .u8 ((f r:Nat):Int) (d:Int) = ((g r:Nat):Int):=by rw [u8_or_nat _ _ (hf2 r) hd,hg r,if_pos rfl]
 have H:=lH h
 have HF:=lH hf
 have Hs:=lH hs
 clear hs
 have Hg:=lH hg
 clear hg
 have Hr:=lH hr
 clear hr
 clear h hf hf2
 obtain ⟨x,hx⟩:∃ x,x = f r:=⟨_,rfl⟩
 obtain ⟨y,hy⟩:∃ y,y = g r:=⟨_,rfl⟩
 rw [<- hx] at hcell2 ho
 rw [<- hy] at ho
 have Hx:=lH hx
 clear hx
 have Hy:=lH hy
 clear hy
 have Ho:=lH ho
 clear ho
 go_enter Tryz.func169,Tryz.ntmps169
 go_wp2_with fail
 go_end0
 rw [Ho.out]
 refine ⟨rfl,⟨?_, ?_⟩, ?_⟩
 · exact (World.rowIs.setOther (World.rowIs.set HF.out r _) (a:=⟨B + 1,0,none⟩) (by simp) _).congr (fun j hj => by
     by_cases hjr:j = r
     · rw [if_pos hjr,hjr,Hy.out]
     · rw [if_neg hjr,Hg.out j,if_neg (fun h => hjr h.symm)])
 · exact (World.rowIs.set (World.rowIs.setOther H.out (a:=⟨B,r,none⟩) (by simp) _) 0 _).congr (fun j hj => by rw [if_pos (by omega)]; rfl)
 · exact Below.setCell (Below.setCell Hs.out (p:=⟨B,r,none⟩) hB _) (p:=⟨B + 1,0,none⟩) (by simp; omega) _
end Eql
namespace Eql
def allZ (f:Nat -> Nat):Bool:=(List.range 16).all fun j => f j == 0
theorem allZ_iff (f:Nat -> Nat):allZ f = true ↔ ∀ j,j < 16 -> f j = 0:=by
 unfold allZ
 rw [List.all_eq_true]
 constructor
 · intro h j hj; exact beq_iff_eq.1 (h j (List.mem_range.2 hj))
 · intro h j hj; exact beq_iff_eq.2 (h j (List.mem_range.1 hj))
theorem since_drewN {W0 w:World} (h:Since W0 w) (n:Nat):Since W0 (w.drewN n):=h.step ⟨rfl,rfl,rfl,Nat.le_refl _,fun _ _ => rfl⟩
theorem eq16 (f:Nat -> Nat):∀ w:World,(Op.equalIn 10000 158 (.agg #[.int .u8 (f 0:Nat),.int .u8 (f 1:Nat),.int .u8 (f 2:Nat),.int .u8 (f 3:Nat),.int .u8 (f 4:Nat),.int .u8 (f 5:Nat),.int .u8 (f 6:Nat),.int .u8 (f 7:Nat),.int .u8 (f 8:Nat),.int .u8 (f 9:Nat),.int .u8 (f 10:Nat),.int .u8 (f 11:Nat),.int .u8 (f 12:Nat),.int .u8 (f 13:Nat),.int .u8 (f 14:Nat),.int .u8 (f 15:Nat)])
   (.agg #[.int .u8 0,.int .u8 0,.int .u8 0,.int .u8 0,.int .u8 0,.int .u8 0,.int .u8 0,.int .u8 0,.int .u8 0,.int .u8 0,.int .u8 0,.int .u8 0,.int .u8 0,.int .u8 0,.int .u8 0,.int .u8 0])).run Tryz.prog w = .ok (allZ f) w:=by
 intro w
 have h:=run_equalIn_array (P:=Tryz.prog) w 9998 158 5 16 .u8 #[.int .u8 (f 0:Nat),.int .u8 (f 1:Nat),.int .u8 (f 2:Nat),.int .u8 (f 3:Nat),.int .u8 (f 4:Nat),.int .u8 (f 5:Nat),.int .u8 (f 6:Nat),.int .u8 (f 7:Nat),.int .u8 (f 8:Nat),.int .u8 (f 9:Nat),.int .u8 (f 10:Nat),.int .u8 (f 11:Nat),.int .u8 (f 12:Nat),.int .u8 (f 13:Nat),.int .u8 (f 14:Nat),.int .u8 (f 15:Nat)]
   #[.int .u8 0,.int .u8 0,.int .u8 0,.int .u8 0,.int .u8 0,.int .u8 0,.int .u8 0,.int .u8 0,.int .u8 0,.int .u8 0,.int .u8 0,.int .u8 0,.int .u8 0,.int .u8 0,.int .u8 0,.int .u8 0] (fun i => (f i:Nat)) (fun _ => 0) (by kernel_rfl) (by kernel_rfl) (fun w => by kernel_rfl) (fun w => by kernel_rfl)
   (fun i hi => by
       match i,hi with
       | 0,_ | 1,_ | 2,_ | 3,_ | 4,_ | 5,_ | 6,_ | 7,_ | 8,_ | 9,_ | 10,_ | 11,_ | 12,_ | 13,_ | 14,_ | 15,_ => rfl
       | n + 16,hi => omega)
   (fun i hi => by
       match i,hi with
       | 0,_ | 1,_ | 2,_ | 3,_ | 4,_ | 5,_ | 6,_ | 7,_ | 8,_ | 9,_ | 10,_ | 11,_ | 12,_ | 13,_ | 14,_ | 15,_ => rfl
       | n + 16,hi => omega)
 have he:((List.range 16).all fun i => ((f i:Nat):Int) == 0) = allZ f:=by
   unfold allZ
   congr 1
   funext i
   rw [Bool.eq_iff_iff]
   simp
 rw [he] at h
 exact h
set_option maxHeartbeats 2000000 in
theorem scan_any (a b:ByteArray) (hm:a.size <= 140737488355327) (hm2:b.size <= 140737488355327) (n:Nat) (hn:n = max a.size b.size) (B:Bool) (hB:B = decide (unl a.data.toList b.data.toList n = 0)):Mak 121 #[.string a,.string b] (.tuple #[.bool B,.int .i64 (n:Int)]):=by
 intro w
 have hz:allZ (fun j => orA a.data.toList b.data.toList j n) = B:=by
   rw [hB]
   by_cases h:unl a.data.toList b.data.toList n = 0
   · rw [decide_eq_true h,allZ_iff]; exact (orA_zero _ _ _).2 h
   · rw [decide_eq_false h]
     cases hc:allZ (fun j => orA a.data.toList b.data.toList j n) with
     | false => rfl
     | true => exact absurd ((orA_zero _ _ _).1 ((allZ_iff _).1 hc)) h
 have hz16:(w.alloc (.cells #[.int .u8 0,.int .u8 0,.int .u8 0,.int .u8 0,.int .u8 0,.int .u8 0,.int .u8 0,.int .u8 0,.int .u8 0,.int .u8 0,.int .u8 0,.int .u8 0,.int .u8 0,.int .u8 0,.int .u8 0,.int .u8 0] 158)).rowIs w.heap.size 158 16 (fun _ => .int .u8 0) :=
   World.rowIs_alloc w _ _ (fun _ => .int .u8 0) (fun i hi => by
       match i,hi with
       | 0,_ | 1,_ | 2,_ | 3,_ | 4,_ | 5,_ | 6,_ | 7,_ | 8,_ | 9,_ | 10,_ | 11,_ | 12,_ | 13,_ | 14,_ | 15,_ => rfl
       | n + 16,hi => simp at hi; omega)
 have hcall:=each_scan a b n hn (by omega) (by omega) (.pointer (some ⟨w.heap.size,0,none⟩)) (.pointer (some ⟨w.heap.size + 1,0,none⟩))
   (fun i w' => (Bits w' w.heap.size (fun j => orA a.data.toList b.data.toList j i) /\ Cnt w' (w.heap.size + 1) (i:Nat)) /\ Since w w')
   (fun i w' h => ⟨⟨World.rowIs.drew h.1.1,World.rowIs.drew h.1.2⟩,Since.drew h.2⟩)
   (fun i w' hi h => scan1 i _ _ i _ (fun j => orA a.data.toList b.data.toList j (i + 1)) w' w h.1.1 h.1.2 (by omega) (by omega) (df_lt _ _ _) (fun j => orA_lt _ _ _ _) (Nat.le_refl _) h.2 (fun j => rfl))
   ((w.alloc (.cells #[.int .u8 0,.int .u8 0,.int .u8 0,.int .u8 0,.int .u8 0,.int .u8 0,.int .u8 0,.int .u8 0,.int .u8 0,.int .u8 0,.int .u8 0,.int .u8 0,.int .u8 0,.int .u8 0,.int .u8 0,.int .u8 0] 158)).alloc (.cells #[.int .i64 0] 3))
   ⟨⟨(World.rowIs.alloc hz16 _).congr (fun j _ => rfl),by
     have h:=World.rowIs_alloc (w.alloc (.cells #[.int .u8 0,.int .u8 0,.int .u8 0,.int .u8 0,.int .u8 0,.int .u8 0,.int .u8 0,.int .u8 0,.int .u8 0,.int .u8 0,.int .u8 0,.int .u8 0,.int .u8 0,.int .u8 0,.int .u8 0,.int .u8 0] 158)) #[.int .i64 0] 3 (fun _ => .int .i64 0) (fun i hi => by
       obtain rfl:i = 0:=by simp at hi; omega
       rfl)
     simpa [Cnt] using h⟩,((Since.refl w).alloc _).alloc _⟩
 have HC:=lH hcall
 have Hz:=lH hz
 clear hz
 have Hn:=lH hn
 clear hn
 clear hcall hz16 hB
 go_enter Tryz.func121,Tryz.ntmps121
 go_wp2_with fail
 refine HC.out.mono ?_
 rintro e w2 ⟨rfl,⟨hb,hc⟩,hs⟩
 have hcell:=World.rowIs.cell hc (i:=0) (by decide)
 obtain ⟨f,hf⟩:∃ f:Nat -> Nat,f = fun j => orA a.data.toList b.data.toList j n:=⟨_,rfl⟩
 rw [<- hf] at hb
 have hzz:allZ f = B:=by rw [hf]; exact Hz.out
 clear hf
 have k0:=World.rowIs.cell hb (i:=0) (by decide)
 have k1:=World.rowIs.cell hb (i:=1) (by decide)
 have k2:=World.rowIs.cell hb (i:=2) (by decide)
 have k3:=World.rowIs.cell hb (i:=3) (by decide)
 have k4:=World.rowIs.cell hb (i:=4) (by decide)
 have k5:=World.rowIs.cell hb (i:=5) (by decide)
 have k6:=World.rowIs.cell hb (i:=6) (by decide)
 have k7:=World.rowIs.cell hb (i:=7) (by decide)
 have k8:=World.rowIs.cell hb (i:=8) (by decide)
 have k9:=World.rowIs.cell hb (i:=9) (by decide)
 have k10:=World.rowIs.cell hb (i:=10) (by decide)
 have k11:=World.rowIs.cell hb (i:=11) (by decide)
 have k12:=World.rowIs.cell hb (i:=12) (by decide)
 have k13:=World.rowIs.cell hb (i:=13) (by decide)
 have k14:=World.rowIs.cell hb (i:=14) (by decide)
 have k15:=World.rowIs.cell hb (i:=15) (by decide)
 have Hb:=lH hb
 clear hb
 have Hc:=lH hc
 clear hc
 have Hs:=lH hs
 clear hs
 have Hzz:=lH hzz
 clear hzz
 have heq:=eq16 f
 rw [Hzz.out] at heq
 go_wp2_with fail
 go_quiet (fail)
 go_wp2_with fail
 go_ret2
 exact ⟨rfl,since_drewN Hs.out _⟩
end Eql
namespace Scan
open Eql
theorem unl_self (a:List UInt8) (n:Nat) (h:n <= a.length):unl a a n = 0:=by
 induction n with
 | zero => rfl
 | succ n ih =>
   show unl a a n + _ = 0
   have hd:df a a n = 0:=by unfold df; rw [if_pos ⟨by omega,by omega⟩,Nat.xor_self]
   rw [ih (by omega),if_pos hd]
theorem unl_zero (a b:List UInt8) (n:Nat) (h:unl a b n = 0):∀ i,i < n -> df a b i = 0:=by
 induction n with
 | zero => intro i hi; omega
 | succ n ih =>
   have h0:unl a b n + (if df a b n = 0 then 0 else 1) = 0:=h
   intro i hi
   by_cases hin:i = n
   · subst hin
     apply Classical.byContradiction
     intro h3
     rw [if_neg h3] at h0
     omega
   · exact ih (by omega) i (by omega)
theorem unl_eq (a b:List UInt8) (h:unl a b (max a.length b.length) = 0):a = b:=by
 have h1:=unl_zero a b _ h
 have hl:a.length = b.length:=by
   apply Classical.byContradiction
   intro hne
   have h2:=h1 (min a.length b.length) (by omega)
   unfold df at h2
   rw [if_neg (by omega)] at h2
   cases h2
 apply List.ext_getElem hl
 intro i ha hb
 have h2:=h1 i (by omega)
 unfold df at h2
 rw [if_pos ⟨ha,hb⟩] at h2
 have h3:(a.getD i 0).toNat = (b.getD i 0).toNat:=by
   have h4:(a.getD i 0).toNat ^^^ (b.getD i 0).toNat ^^^ (b.getD i 0).toNat = (b.getD i 0).toNat:=by rw [h2,Nat.zero_xor]
   rwa [Nat.xor_assoc,Nat.xor_self,Nat.xor_zero] at h4
 have h5:=UInt8.toNat_inj.1 h3
 simpa [List.getD,ha,hb] using h5
theorem scan_m (a b:ByteArray) (hm:a.size <= 140737488355327) (hm2:b.size <= 140737488355327) (q:Bool) (hq:q = decide (a = b)):∃ n:Int,Mak 121 #[.string a,.string b] (.tuple #[.bool q,.int .i64 n]):=by
 refine ⟨_,scan_any a b hm hm2 _ rfl q ?_⟩
 rw [hq]
 congr 1
 refine propext ⟨fun h => ?_,fun h => ?_⟩
 · subst h
   rw [Nat.max_self]
   exact unl_self _ _ (Nat.le_refl _)
 · exact ba_ext (unl_eq _ _ h)
end Scan
end Go.Proofs.YtddlaafpianjbaaGreatDoor
