import Derived.Test.YtddlaafpianjbaaGreatDoorBo26
import Derived.Test.YtddlaafpianjbaaGreatDoorBo19
set_option maxRecDepth 100000
namespace Go.Proofs.YtddlaafpianjbaaGreatDoor
open Go.RowKit
namespace Cmac
open Rnd Aes
theorem conv_row (w:World) (b t n:Nat) (f:Nat -> Value) (l:List UInt8) (h:w.rowIs b t n f) (hl:l.length = n) (hf:∀ j,j < n -> f j = .int .u8 ((ent l j:Nat):Int)) :
   (convert 114 9 (.slice (some ⟨b,0,none⟩) n n)).run Tryz.prog w = .ok (.string (bs l)) w:=by
 have g:=run_convert_bytes_arg (P:=Tryz.prog) w 114 5 Tryz.underlying114 Tryz.underlying5 b 0 n n (l.map fun c => (c.toNat:Int)) (by rw [List.length_map,hl]) (fun i hi => by
   rw [Nat.zero_add,h.cell hi,hf i hi]
   unfold ent
   simp [List.getD,List.getElem?_eq_getElem (show i < l.length by omega)]) 9 Tryz.underlying9
 rw [g,nums_bytes]
theorem slice_16 (b o:Nat) (w:World):(Instr.sliceAt 158 (.pointer (some ⟨b,o,none⟩)) none none none).run Tryz.prog w = .ok (.slice (some ⟨b,o,none⟩) 16 16) w:=by kernel_rfl
def carN (l:List UInt8) (j:Nat):Nat:=if j < 16 then ent l j / 128 else 0
def preN (l:List UInt8) (j:Nat):Nat:=ent l j * 2 % 256 + carN l (j + 1)
def dblN (l:List UInt8) (j:Nat):Nat:=if j = 15 /\ carN l 0 ≠ 0 then preN l j ^^^ 135 else preN l j
def dblL (l:List UInt8):List UInt8:=mk16 (dblN l)
theorem carN_lt (l:List UInt8) (j:Nat):carN l j < 2:=by
 unfold carN
 have:=ent_lt l j
 split <;> omega
theorem preN_lt (l:List UInt8) (j:Nat):preN l j < 256:=by
 unfold preN
 have:=carN_lt l (j + 1)
 omega
theorem dblN_lt (l:List UInt8) (j:Nat):dblN l j < 256:=by
 unfold dblN
 have:=preN_lt l j
 split
 · exact Nat.xor_lt_two_pow (n:=8) this (by decide)
 · exact this
theorem dblL_len (l:List UInt8):(dblL l).length = 16:=mk16_len _
theorem dblL_ent (l:List UInt8) (j:Nat) (h:j < 16):ent (dblL l) j = dblN l j:=mk16_ent _ j h (dblN_lt l j)
theorem or_all:(List.range 256).all (fun x => (List.range 2).all fun c => bits .or .u8 ((x:Int) * 2 % 256) (c:Int) == ((x * 2 % 256 + c:Nat):Int)) = true:=by decide +kernel
theorem or_carry (x c:Nat) (hx:x < 256) (hc:c < 2):bits .or .u8 ((x:Int) * 2 % 256) (c:Int) = ((x * 2 % 256 + c:Nat):Int):=by
 have h:=or_all
 rw [List.all_eq_true] at h
 have h1:=h x (List.mem_range.2 hx)
 rw [List.all_eq_true] at h1
 have h2:=h1 c (List.mem_range.2 hc)
 rwa [beq_iff_eq] at h2
def dblK (b:ByteArray):ByteArray:=bs (dblL b.data.toList)
theorem dblK_size (b:ByteArray):(dblK b).size = 16:=by unfold dblK; rw [size_bs,dblL_len]
set_option maxHeartbeats 2000000 in
theorem double_yes (b:ByteArray) (hb:b.size = 16) (X:ByteArray) (hX:X = dblK b):Mak 187 #[.string b] (.string X):=by
 intro w
 have hn:((b.size:Int) == 16) = true:=by rw [beq_iff_eq]; omega
 have hn2:((b.size:Int) != 16) = false:=by rw [bne_eq_false_iff_eq]; omega
 obtain ⟨l,hl⟩:∃ l,l = b.data.toList:=⟨_,rfl⟩
 have HL:=lH hl
 have HX:=lH hX
 have HB:=lH hb
 clear hb hX hl
 go_enter Tryz.func187,Tryz.ntmps187
 go_wp2_with fail
 go_loopw [4,5] (fun c i wr => ∃ (k:Nat) (x:Int),k <= 16 /\ i = .int .i64 x /\ Hid (x = (k:Int) - 1) /\ c = .int .u8 ((carN l k:Nat):Int) /\ Hid (wr.rowIs w.heap.size 158 16 (fun p => if k <= p then .int .u8 ((preN l p:Nat):Int) else .int .u8 0)) /\ Hid (Since w wr)) (fun _ i _ => (intOf i + 1).toNat)
 case atStart =>
   refine ⟨16,15,by omega,rfl,lH rfl,rfl,lH ?_,lH ((Since.refl w).alloc _)⟩
   exact (zrow w 158 Z16 rfl z16).congr fun j hj => by rw [if_neg (by omega)]
 case round =>
   obtain ⟨k,x,hk,rfl,HXX,rfl,HR,HS⟩:=hrel
   by_cases hk0:k = 0
   · obtain rfl:x = -1:=by have:=HXX.out; omega
     subst hk0
     obtain ⟨c0,hc0⟩:∃ c,c = carN l 0:=⟨_,rfl⟩
     rw [<- hc0]
     have hsl:∀ w',(Instr.sliceAt 158 (.pointer (some ⟨w.heap.size,0,none⟩)) none none none).run Tryz.prog w' = .ok (.slice (some ⟨w.heap.size,0,none⟩) 16 16) w':=slice_16 _ _
     have HR2:=lH (HR.out.congr (g:=fun p => .int .u8 ((preN l p:Nat):Int)) fun p _ => by rw [if_pos (Nat.zero_le _)])
     by_cases hc:c0 = 0
     · have t1:((c0:Int) != 0) = false:=by rw [bne_eq_false_iff_eq]; omega
       have hcv:=conv_row wr w.heap.size 158 16 _ (dblL l) HR2.out (dblL_len l) (fun j hj => by
         rw [dblL_ent l j hj]
         unfold dblN
         rw [if_neg (by rw [<- hc0]; omega)])
       have e:bs (dblL l) = X:=by rw [HX.out,dblK,HL.out]
       rw [e] at hcv
       clear hc hc0
       go_wp2_with fail
       go_ret
       exact ⟨rfl,HS.out⟩
     · have t1:((c0:Int) != 0) = true:=by rw [bne_iff_ne]; omega
       have hcl:=HR2.out.cell (i:=15) (by decide)
       have hf:=HR2.out.frozen 15
       have hp:=preN_lt l 15
       obtain ⟨p,hpe⟩:∃ p,p = preN l 15:=⟨_,rfl⟩
       rw [<- hpe] at hcl hp
       have hxo:bits .xor .u8 (p:Int) 135 = ((p ^^^ 135:Nat):Int):=u8_xor_nat p 135 hp (by decide)
       have hcv:=conv_row (wr.setCell ⟨w.heap.size,15,none⟩ (.int .u8 ((p ^^^ 135:Nat):Int))) w.heap.size 158 16 _ (dblL l) (HR2.out.set 15 _) (dblL_len l) (fun j hj => by
         rw [dblL_ent l j hj]
         unfold dblN
         by_cases h:j = 15
         · rw [if_pos h,if_pos ⟨h,by rw [<- hc0]; exact hc⟩,h,hpe]
         · rw [if_neg h,if_neg (fun h2 => h h2.1)])
       have e:bs (dblL l) = X:=by rw [HX.out,dblK,HL.out]
       rw [e] at hcv
       clear hc hc0 hpe
       go_wp2_with fail
       go_ret
       exact ⟨rfl,Below.setCell (p:=⟨w.heap.size,15,none⟩) HS.out (Nat.le_refl _) _⟩
   · obtain ⟨m,hm⟩:∃ m,k = m + 1:=⟨k - 1,by omega⟩
     obtain rfl:x = (m:Int):=by have:=HXX.out; omega
     have hm16:m < 16:=by omega
     have hks:m < b.size:=by have:=HB.out; omega
     have hd:decide ((0:Int) <= (m:Int)) = true:=decide_eq_true (by omega)
     obtain ⟨o,hcl⟩:∃ o,wr.cell? ⟨w.heap.size,m,none⟩ = some o:=⟨_,HR.out.cell (i:=m) hm16⟩
     have hf:=HR.out.frozen m
     obtain ⟨c0,hc0⟩:∃ c,c = carN l k:=⟨_,rfl⟩
     rw [<- hc0]
     have i1:(0:Int) <= (m:Int):=by omega
     have i2:(m:Int) < 16:=by omega
     have i3:(m:Int) < (b.size:Int):=by omega
     have Hm:=lH hm
     clear hm
     have Hc0:=lH hc0
     clear hc0
     clear hk0
     go_wp2_with fail
     go_roundw
     case rel =>
       have hs:=ent_s b m hks
       rw [<- HL.out] at hs
       refine ⟨m,(m:Int) - 1,by omega,rfl,lH rfl, ?_,lH ((HR.out.set m _).congr fun p hp => ?_),lH (Below.setCell (p:=⟨w.heap.size,m,none⟩) HS.out (Nat.le_refl _) _)⟩
       · unfold carN
         rw [if_pos hm16,hs]; rfl
       · have hmm:=Hm.out
         by_cases h:p = m
         · rw [if_pos h,if_pos (by omega),h,<- hs]
           have h9:=or_carry (ent l m) c0 (ent_lt _ _) (by rw [Hc0.out]; exact carN_lt _ _)
           rw [h9,Hc0.out,hmm]; rfl
         · rw [if_neg h]
           by_cases h3:k <= p
           · rw [if_pos h3,if_pos (by omega)]
           · rw [if_neg h3,if_neg (by omega)]
     case measure => simp [intOf]
end Cmac
namespace RefCmac
open Rnd Aes Cmac
set_option maxHeartbeats 2000000 in
theorem double_yes (b:ByteArray) (hb:b.size = 16) (X:ByteArray) (hX:X = dblK b):Mak 172 #[.string b] (.string X):=by
 intro w
 have hn:((b.size:Int) == 16) = true:=by rw [beq_iff_eq]; omega
 have hn2:((b.size:Int) != 16) = false:=by rw [bne_eq_false_iff_eq]; omega
 obtain ⟨l,hl⟩:∃ l,l = b.data.toList:=⟨_,rfl⟩
 have HL:=lH hl
 have HX:=lH hX
 have HB:=lH hb
 clear hb hX hl
 go_enter Tryz.func172,Tryz.ntmps172
 go_wp2_with fail
 go_loopw [4,5] (fun c i wr => ∃ (k:Nat) (x:Int),k <= 16 /\ i = .int .i64 x /\ Hid (x = (k:Int) - 1) /\ c = .int .i64 ((carN l k:Nat):Int) /\ Hid (wr.rowIs w.heap.size 158 16 (fun p => if k <= p then .int .u8 ((preN l p:Nat):Int) else .int .u8 0)) /\ Hid (Since w wr)) (fun _ i _ => (intOf i + 1).toNat)
 case atStart =>
   refine ⟨16,15,by omega,rfl,lH rfl,rfl,lH ?_,lH ((Since.refl w).alloc _)⟩
   exact (zrow w 158 Z16 rfl z16).congr fun j hj => by rw [if_neg (by omega)]
 case round =>
   obtain ⟨k,x,hk,rfl,HXX,rfl,HR,HS⟩:=hrel
   by_cases hk0:k = 0
   · obtain rfl:x = -1:=by have:=HXX.out; omega
     subst hk0
     obtain ⟨c0,hc0⟩:∃ c,c = carN l 0:=⟨_,rfl⟩
     rw [<- hc0]
     have hsl:∀ w',(Instr.sliceAt 158 (.pointer (some ⟨w.heap.size,0,none⟩)) none none none).run Tryz.prog w' = .ok (.slice (some ⟨w.heap.size,0,none⟩) 16 16) w':=slice_16 _ _
     have HR2:=lH (HR.out.congr (g:=fun p => .int .u8 ((preN l p:Nat):Int)) fun p _ => by rw [if_pos (Nat.zero_le _)])
     by_cases hc:c0 = 0
     · have t1:((c0:Int) == 1) = false:=by rw [beq_eq_false_iff_ne]; omega
       have hcv:=conv_row wr w.heap.size 158 16 _ (dblL l) HR2.out (dblL_len l) (fun j hj => by
         rw [dblL_ent l j hj]
         unfold dblN
         rw [if_neg (by rw [<- hc0]; omega)])
       have e:bs (dblL l) = X:=by rw [HX.out,dblK,HL.out]
       rw [e] at hcv
       clear hc hc0
       go_wp2_with fail
       go_ret
       exact ⟨rfl,HS.out⟩
     · have t1:((c0:Int) == 1) = true:=by have:=carN_lt l 0; rw [beq_iff_eq]; omega
       have hcl:=HR2.out.cell (i:=15) (by decide)
       have hf:=HR2.out.frozen 15
       have hp:=preN_lt l 15
       obtain ⟨p,hpe⟩:∃ p,p = preN l 15:=⟨_,rfl⟩
       rw [<- hpe] at hcl hp
       have hxo:bits .xor .u8 (p:Int) 135 = ((p ^^^ 135:Nat):Int):=u8_xor_nat p 135 hp (by decide)
       have hcv:=conv_row (wr.setCell ⟨w.heap.size,15,none⟩ (.int .u8 ((p ^^^ 135:Nat):Int))) w.heap.size 158 16 _ (dblL l) (HR2.out.set 15 _) (dblL_len l) (fun j hj => by
         rw [dblL_ent l j hj]
         unfold dblN
         by_cases h:j = 15
         · rw [if_pos h,if_pos ⟨h,by rw [<- hc0]; exact hc⟩,h,hpe]
         · rw [if_neg h,if_neg (fun h2 => h h2.1)])
       have e:bs (dblL l) = X:=by rw [HX.out,dblK,HL.out]
       rw [e] at hcv
       clear hc hc0 hpe
       go_wp2_with fail
       go_ret
       exact ⟨rfl,Below.setCell (p:=⟨w.heap.size,15,none⟩) HS.out (Nat.le_refl _) _⟩
   · obtain ⟨m,hm⟩:∃ m,k = m + 1:=⟨k - 1,by omega⟩
     obtain rfl:x = (m:Int):=by have:=HXX.out; omega
     have hm16:m < 16:=by omega
     have hks:m < b.size:=by have:=HB.out; omega
     have hd:decide ((0:Int) <= (m:Int)) = true:=decide_eq_true (by omega)
     obtain ⟨o,hcl⟩:∃ o,wr.cell? ⟨w.heap.size,m,none⟩ = some o:=⟨_,HR.out.cell (i:=m) hm16⟩
     have hf:=HR.out.frozen m
     obtain ⟨c0,hc0⟩:∃ c,c = carN l k:=⟨_,rfl⟩
     rw [<- hc0]
     have i1:(0:Int) <= (m:Int):=by omega
     have i2:(m:Int) < 16:=by omega
     have i3:(m:Int) < (b.size:Int):=by omega
     have hx9:(b[m].toNat:Int) < 256:=by have:=b[m].toNat_lt; omega
     have hx8:(0:Int) <= (b[m].toNat:Int):=by omega
     have hc9:(c0:Int) < 2:=by have:=carN_lt l k; omega
     have Hm:=lH hm
     clear hm
     have Hc0:=lH hc0
     clear hc0
     clear hk0
     go_wp2_with fail
     go_roundw
     case rel =>
       have hs:=ent_s b m hks
       rw [<- HL.out] at hs
       have h0:=Hc0.out
       have hmm:=Hm.out
       refine ⟨m,(m:Int) - 1,by omega,rfl,lH rfl, ?_,lH ((HR.out.set m _).congr fun p hp => ?_),lH (Below.setCell (p:=⟨w.heap.size,m,none⟩) HS.out (Nat.le_refl _) _)⟩
       · unfold carN
         rw [if_pos hm16,hs]
         congr 1
         omega
       · by_cases h:p = m
         · rw [if_pos h,if_pos (by omega),h]
           unfold preN
           rw [hs,<- hmm,<- h0]
           congr 1
           omega
         · rw [if_neg h]
           by_cases h3:k <= p
           · rw [if_pos h3,if_pos (by omega)]
           · rw [if_neg h3,if_neg (by omega)]
     case measure => simp [intOf]
end RefCmac
namespace Cbc
open Rnd Aes RefAes
def prevE (f:ByteArray -> ByteArray) (iv:ByteArray) (l:List UInt8):Nat -> ByteArray
 | 0 => iv
 | k + 1 => f (Sched.xorS (Oct.pc l 16 k) (prevE f iv l k))
def chainE (f:ByteArray -> ByteArray) (iv:ByteArray) (l:List UInt8):Nat -> List UInt8
 | 0 => []
 | k + 1 => chainE f iv l k ++ (prevE f iv l (k + 1)).data.toList
def prevD (iv:ByteArray) (l:List UInt8):Nat -> ByteArray
 | 0 => iv
 | k + 1 => Oct.pc l 16 k
def chainD (f:ByteArray -> ByteArray) (iv:ByteArray) (l:List UInt8):Nat -> List UInt8
 | 0 => []
 | k + 1 => chainD f iv l k ++ (Sched.xorS (f (Oct.pc l 16 k)) (prevD iv l k)).data.toList
theorem prevE_size (f:ByteArray -> ByteArray) (hf:∀ b,(f b).size = 16) (iv:ByteArray) (hiv:iv.size = 16) (l:List UInt8) (k:Nat):(prevE f iv l k).size = 16:=by
 cases k with
 | zero => exact hiv
 | succ k => exact hf _
theorem chainE_len (f:ByteArray -> ByteArray) (hf:∀ b,(f b).size = 16) (iv:ByteArray) (l:List UInt8) (k:Nat):(chainE f iv l k).length = 16 * k:=by
 induction k with
 | zero => rfl
 | succ k ih =>
   rw [chainE,List.length_append,ih]
   have:(prevE f iv l (k + 1)).data.toList.length = 16:=hf _
   omega
theorem pc_size (l:List UInt8) (k:Nat) (h:16 * k + 16 <= l.length):(Oct.pc l 16 k).size = 16:=by
 unfold Oct.pc
 rw [size_bs,List.length_take,List.length_drop]; omega
theorem prevD_size (iv:ByteArray) (hiv:iv.size = 16) (l:List UInt8) (k:Nat) (h:16 * k <= l.length):(prevD iv l k).size = 16:=by
 cases k with
 | zero => exact hiv
 | succ k => exact pc_size l k (by omega)
theorem chainD_len (f:ByteArray -> ByteArray) (hf:∀ b,(f b).size = 16) (iv:ByteArray) (hiv:iv.size = 16) (l:List UInt8) (k:Nat) (h:16 * k <= l.length):(chainD f iv l k).length = 16 * k:=by
 induction k with
 | zero => rfl
 | succ k ih =>
   rw [chainD,List.length_append,ih (by omega)]
   have h1:(Sched.xorS (f (Oct.pc l 16 k)) (prevD iv l k)).data.toList.length = 16:=by
     show (Sched.xorS (f (Oct.pc l 16 k)) (prevD iv l k)).size = 16
     rw [Sched.xorS_size,hf,prevD_size iv hiv l k (by omega)]; rfl
   omega
def encC (key iv s:ByteArray):ByteArray:=bs (chainE (encK key) iv s.data.toList (s.size / 16))
def decC (key iv s:ByteArray):ByteArray:=bs (chainD (decK key) iv s.data.toList (s.size / 16))
theorem xor16_size (a b:ByteArray) (ha:a.size = 16) (hb:b.size = 16):(Sched.xorS a b).size = 16:=by rw [Sched.xorS_size,ha,hb]; rfl
theorem begin_yes (key iv s:ByteArray) (hk:keyOk key) (hi:iv.size = 16) (hs:s.size % 16 = 0):MakK 103 #[.string key,.string iv,.string s] key:=by
 intro W0 w hs0 R kR
 have H0:=lH hs0
 have KR:=lH kR
 have HS:=lH (Since.refl w)
 refine Calls.mono (R:=fun e w' => ∃ c:Nat,e = .returned (.tuple #[.pointer (some ⟨c,0,none⟩),.int .i64 0]) /\ CipK w' c key /\ Since w w') ?_ fun e w' ⟨c,he,hc,h⟩ => by subst he; exact KR.out c w' hc h (H0.out.step h)
 have c1:=new_key key hk
 have t1:((iv.size:Int) == 16) = true:=by rw [beq_iff_eq]; omega
 have t2:((iv.size:Int) != 16) = false:=by rw [bne_eq_false_iff_eq]; omega
 have t3:((s.size:Int) % 16 == 0) = true:=by rw [beq_iff_eq]; omega
 have t4:((s.size:Int) % 16 != 0) = false:=by rw [bne_eq_false_iff_eq]; omega
 clear hk hi hs hs0 kR
 go_enter Tryz.func103,Tryz.ntmps103
 go_wp2_with fail
 refine c1 _ _ HS.out _ ?_
 intro c w1 hC _ h1
 have H1:=lH h1
 have HC:=lH hC
 clear hC h1
 go_wp2_with fail
 go_ret2
 exact ⟨c,rfl,HC.out,H1.out⟩
set_option maxHeartbeats 2000000 in
theorem enc_yes (key iv s:ByteArray) (hk:keyOk key) (hi:iv.size = 16) (hs:s.size % 16 = 0) (hm:s.size <= 1000000) (X:ByteArray) (hX:X = encC key iv s):Mak 60 #[.string key,.string iv,.string s] (.tuple #[.string X,.int .i64 0]):=by
 intro w
 have c1:=begin_yes key iv s hk hi hs
 have H0:=lH (Since.refl w)
 have hmk:=Oct.make_row s.size (by omega)
 have HX:=lH hX
 have HM:=lH hs
 have HI:=lH hi
 clear hk hX hs hi
 go_enter Tryz.func60,Tryz.ntmps60
 go_wp2_with fail
 refine c1 _ _ H0.out _ ?_
 intro c w1 hC _ h1
 have HC:=lH hC
 have H1:=lH h1
 have HR0:=lH (Oct.made_row s.size w1)
 have HS0:=lH (Since.alloc (Since.refl w1) (.cells (madeCells #[.int .u8 0] s.size) 5))
 clear hC h1
 go_wp2_with fail
 obtain ⟨g,hg⟩:∃ g,g = w1.heap.size:=⟨_,rfl⟩
 rw [<- hg] at HR0 ⊢
 have HG:Hid (w1.heap.size <= g):=lH (by omega)
 clear hg hmk
 go_loopw [11,12] (fun p i wr => ∃ (a k:Nat) (V:ByteArray),i = .int .i64 (a:Int) /\ p = .string V /\ Hid (a = 16 * k) /\ a <= s.size /\ Hid (V = prevE (encK key) iv s.data.toList k) /\ Hid (wr.rowIs g 5 s.size (Oct.rowF (chainE (encK key) iv s.data.toList k))) /\ Hid (Since w1 wr)) (fun _ i _ => s.size - (intOf i).toNat)
 case atStart => exact ⟨0,0,iv,rfl,rfl,lH rfl,Nat.zero_le _,lH rfl,HR0,HS0⟩
 case round =>
   clear HR0 HS0
   obtain ⟨a,k,V,rfl,rfl,HA,ha,HV,HR,HS⟩:=hrel
   by_cases hlt:a < s.size
   · have hd:decide ((a:Int) < (s.size:Int)) = true:=decide_eq_true (by omega)
     have hak:a + 16 <= s.size:=by have:=HA.out; have:=HM.out; omega
     have hp:=pc_16 s k (by have:=HA.out; omega)
     obtain ⟨P,hP⟩:∃ P,P = Oct.pc s.data.toList 16 k:=⟨_,rfl⟩
     rw [<- hP] at hp
     have hVs:V.size = 16:=by rw [HV.out]; exact prevE_size _ (encK_size key) _ HI.out _ _
     obtain ⟨Z,hZ⟩:∃ Z,Z = Sched.xorS P V:=⟨_,rfl⟩
     have hZs:Z.size = 16:=by rw [hZ]; exact xor16_size _ _ hp hVs
     obtain ⟨Y,hY⟩:∃ Y,Y = encK key Z:=⟨_,rfl⟩
     have hYs:Y.size = 16:=by rw [hY]; exact encK_size key Z
     have hYp:Y = prevE (encK key) iv s.data.toList (k + 1):=by rw [hY,hZ,hP,HV.out]; rfl
     have c0:Ret 106 #[.string s,.int .i64 (a:Int),.int .i64 16] (.string P):=fun w => by
       have h:=Oct.cut_yes s a 16 w (by omega) (by decide) hlt (by decide)
       rw [HA.out] at h
       rw [hP,HA.out]; exact h
     have c3:=Sched.xor_m P V (by omega) (by omega) Z hZ
     have c2:=fun w' (h:Since w1 w') => cenc_yes c key Z hZs Y hY w' (HC.out.since h)
     have hrw:chainE (encK key) iv s.data.toList (k + 1) = chainE (encK key) iv s.data.toList k ++ Y.data.toList:=by rw [chainE,hYp]
     have hll:(chainE (encK key) iv s.data.toList k).length = a:=by rw [chainE_len _ (encK_size key),HA.out]
     have i1:(0:Int) <= (a:Int):=by omega
     have i2:(a:Int) <= (s.size:Int):=by omega
     clear hp hP hY hVs hZ hZs
     have H_c2:=lH c2
     clear c2
     have Hrw:=lH hrw
     clear hrw
     have Hll:=lH hll
     clear hll
     have HYs:=lH hYs
     clear hYs
     have HYp:=lH hYp
     clear hYp
     go_wp2_with fail
     have HF:=lH (Since.refl wr)
     refine (c0).calls ?_
     go_wp2_with fail
     refine c3.calls HF.out ?_
     intro w2 h2
     have H2:=lH h2
     clear h2
     go_wp2_with fail
     refine (H_c2.out _ (Since.step HS.out H2.out)).mono ?_
     rintro e w3 ⟨rfl,h3⟩
     have hS3:=Since.step H2.out h3
     have hR3:=HR.out.of_block (hS3.below.block g HR.out.lt)
     have hS3':=Since.step HS.out hS3
     obtain ⟨w4,hrun,hrow,hbel⟩:=run_copy_str w3 Y g 5 a s.size (s.size - a) (s.size - a) 3 _ (some ⟨g,a,none⟩) hR3 (fun _ => rfl) (by have:=HYs.out; omega) (by have:=HYs.out; omega)
     have HR4:Hid (w4.rowIs g 5 s.size (Oct.rowF (chainE (encK key) iv s.data.toList (k + 1)))):=lH (hrow.congr fun j _ => by
       have h9:=Oct.rowF_put (chainE (encK key) iv s.data.toList k) Y.data.toList j
       rw [Hll.out,<- Hrw.out] at h9
       exact h9)
     have HS4:Hid (Since w1 w4):=lH (hbel _ _ hS3' HG.out)
     clear h3 hR3 hS3 hS3' hrow hbel
     have Hrun:=lH hrun
     clear hrun
     go_wp2_with ((with_reducible refine Lib.wpList_copy_run (P:=Tryz.prog) _ (o:=⟨some 50,_,_,_,_,_⟩) ?_ (.tmp 48) (.tmp 49) 114 9 ?_ _ _ ?_ ?_ Hrun.out ?_) <;> try rfl)
     go_roundw
     case rel => exact ⟨a + 16,k + 1,Y,by go_num,rfl,lH (by have:=HA.out; omega),hak,HYp,HR4,HS4⟩
     case measure => simp [intOf]; omega
   · have hd:decide ((a:Int) < (s.size:Int)) = false:=decide_eq_false (by omega)
     have hcv:=Oct.row_str wr g s.size s.size _ HR.out (by rw [chainE_len _ (encK_size key)]; have:=HA.out; omega)
     have e:bs (chainE (encK key) iv s.data.toList k) = X:=by
       rw [HX.out,encC,show s.size / 16 = k from by have:=HA.out; omega]
     rw [e] at hcv
     go_wp2_with fail
     go_ret2
     exact ⟨rfl,Since.step H1.out HS.out⟩
set_option maxHeartbeats 2000000 in
theorem dec_yes (key iv s:ByteArray) (hk:keyOk key) (hi:iv.size = 16) (hs:s.size % 16 = 0) (hm:s.size <= 1000000) (X:ByteArray) (hX:X = decC key iv s):Mak 73 #[.string key,.string iv,.string s] (.tuple #[.string X,.int .i64 0]):=by
 intro w
 have c1:=begin_yes key iv s hk hi hs
 have H0:=lH (Since.refl w)
 have hmk:=Oct.make_row s.size (by omega)
 have HX:=lH hX
 have HM:=lH hs
 have HI:=lH hi
 clear hk hX hs hi
 go_enter Tryz.func73,Tryz.ntmps73
 go_wp2_with fail
 refine c1 _ _ H0.out _ ?_
 intro c w1 hC _ h1
 have HC:=lH hC
 have H1:=lH h1
 have HR0:=lH (Oct.made_row s.size w1)
 have HS0:=lH (Since.alloc (Since.refl w1) (.cells (madeCells #[.int .u8 0] s.size) 5))
 clear hC h1
 go_wp2_with fail
 obtain ⟨g,hg⟩:∃ g,g = w1.heap.size:=⟨_,rfl⟩
 rw [<- hg] at HR0 ⊢
 have HG:Hid (w1.heap.size <= g):=lH (by omega)
 clear hg hmk
 go_loopw [11,12] (fun p i wr => ∃ (a k:Nat) (V:ByteArray),i = .int .i64 (a:Int) /\ p = .string V /\ Hid (a = 16 * k) /\ a <= s.size /\ Hid (V = prevD iv s.data.toList k) /\ Hid (wr.rowIs g 5 s.size (Oct.rowF (chainD (decK key) iv s.data.toList k))) /\ Hid (Since w1 wr)) (fun _ i _ => s.size - (intOf i).toNat)
 case atStart => exact ⟨0,0,iv,rfl,rfl,lH rfl,Nat.zero_le _,lH rfl,HR0,HS0⟩
 case round =>
   clear HR0 HS0
   obtain ⟨a,k,V,rfl,rfl,HA,ha,HV,HR,HS⟩:=hrel
   have hsl:s.data.toList.length = s.size:=rfl
   have hll:(chainD (decK key) iv s.data.toList k).length = a:=by
     rw [chainD_len _ (decK_size key) iv HI.out _ _ (by have:=HA.out; omega),HA.out]
   by_cases hlt:a < s.size
   · have hd:decide ((a:Int) < (s.size:Int)) = true:=decide_eq_true (by omega)
     have hak:a + 16 <= s.size:=by have:=HA.out; have:=HM.out; omega
     have hp:=pc_16 s k (by have:=HA.out; omega)
     obtain ⟨P,hP⟩:∃ P,P = Oct.pc s.data.toList 16 k:=⟨_,rfl⟩
     rw [<- hP] at hp
     have hVs:V.size = 16:=by rw [HV.out]; exact prevD_size _ HI.out _ _ (by have:=HA.out; omega)
     obtain ⟨Z,hZ⟩:∃ Z,Z = decK key P:=⟨_,rfl⟩
     have hZs:Z.size = 16:=by rw [hZ]; exact decK_size key P
     obtain ⟨Y,hY⟩:∃ Y,Y = Sched.xorS Z V:=⟨_,rfl⟩
     have hYs:Y.size = 16:=by rw [hY]; exact xor16_size _ _ hZs hVs
     have hPp:P = prevD iv s.data.toList (k + 1):=hP
     have c0:Ret 106 #[.string s,.int .i64 (a:Int),.int .i64 16] (.string P):=fun w => by
       have h:=Oct.cut_yes s a 16 w (by omega) (by decide) hlt (by decide)
       rw [HA.out] at h
       rw [hP,HA.out]; exact h
     have c3:=Sched.xor_m Z V (by omega) (by omega) Y hY
     have c2:=fun w' (h:Since w1 w') => cdec_yes c key P hp Z hZ w' (HC.out.since h)
     have hrw:chainD (decK key) iv s.data.toList (k + 1) = chainD (decK key) iv s.data.toList k ++ Y.data.toList:=by rw [chainD,hY,hZ,hP,HV.out]
     have i1:(0:Int) <= (a:Int):=by omega
     have hne:¬ s.size = a:=by omega
     have i2:(a:Int) <= (s.size:Int):=by omega
     clear hp hP hY hVs hZ hZs hsl
     have H_c2:=lH c2
     clear c2
     have Hrw:=lH hrw
     clear hrw
     have Hll:=lH hll
     clear hll
     have HYs:=lH hYs
     clear hYs
     have HPp:=lH hPp
     clear hPp
     have HF:=lH (Since.refl wr)
     go_wp2_with fail
     refine (c0).calls ?_
     go_wp2_with fail
     refine (H_c2.out _ HS.out).mono ?_
     rintro e w2 ⟨rfl,h2⟩
     have H2:=lH h2
     clear h2
     go_wp2_with fail
     go_region_law (first
       | (go_simp; go_at_call 105; refine (c3 _).mono ?_; rintro e w3 ⟨rfl,h3⟩; have hS3:=Since.step (Since.drew H2.out) h3; have hR3:=HR.out.of_block (hS3.below.block g HR.out.lt); have hS3':=Since.step HS.out hS3; obtain ⟨w4,hrun,hrow,hbel⟩:=run_copy_str w3 Y g 5 a s.size (s.size - a) (s.size - a) 3 _ (some ⟨g,a,none⟩) hR3 (fun _ => rfl) (by have:=HYs.out; omega) (by have:=HYs.out; omega)))
     all_goals
       have HR4:Hid (w4.rowIs g 5 s.size (Oct.rowF (chainD (decK key) iv s.data.toList (k + 1)))):=lH (hrow.congr fun j _ => by
         have h9:=Oct.rowF_put (chainD (decK key) iv s.data.toList k) Y.data.toList j
         rw [Hll.out,<- Hrw.out] at h9
         exact h9)
       have HS4:Hid (Since w1 w4):=lH (hbel _ _ hS3' HG.out)
       clear h3 hR3 hS3 hS3' hrow hbel hrun
       go_wp2_with fail
       go_roundw
       case rel => exact ⟨a + 16,k + 1,P,by go_num,rfl,lH (by have:=HA.out; omega),hak,HPp,HR4,HS4⟩
       case measure => simp [intOf]; omega
   · have hd:decide ((a:Int) < (s.size:Int)) = false:=decide_eq_false (by omega)
     have hcv:=Oct.row_str wr g s.size s.size _ HR.out (by rw [hll]; omega)
     have e:bs (chainD (decK key) iv s.data.toList k) = X:=by
       rw [HX.out,decC,show s.size / 16 = k from by have:=HA.out; omega]
     rw [e] at hcv
     clear hsl hll
     go_wp2_with fail
     go_ret2
     exact ⟨rfl,Since.step H1.out HS.out⟩
end Cbc
namespace Cmac
open Rnd Aes
def zero:ByteArray:=strOfNums (List.replicate 16 0)
theorem zero_size:zero.size = 16:=by unfold zero; rw [strOfNums_size]; simp
def sub1 (key:ByteArray):ByteArray:=dblK (encK key zero)
def sub2 (key:ByteArray):ByteArray:=dblK (sub1 key)
theorem sub1_size (key:ByteArray):(sub1 key).size = 16:=dblK_size _
theorem sub2_size (key:ByteArray):(sub2 key).size = 16:=dblK_size _
def blkN (n:Nat):Nat:=if n = 0 then 1 else (n - 1) / 16 + 1
def padB (b:ByteArray):ByteArray:=bs (b.data.toList ++ 128 :: List.replicate (15 - b.size) 0)
theorem padB_size (b:ByteArray) (h:b.size <= 15):(padB b).size = 16:=by
 have h9:b.data.toList.length = b.size:=rfl
 unfold padB
 rw [size_bs,List.length_append,List.length_cons,List.length_replicate]; omega
def lastB (key b:ByteArray):ByteArray:=if b.size = 16 then Sched.xorS b (sub1 key) else Sched.xorS (padB b) (sub2 key)
theorem lastB_size (key b:ByteArray) (h:b.size <= 16):(lastB key b).size = 16:=by
 unfold lastB
 split
 · exact Cbc.xor16_size _ _ ‹_› (sub1_size _)
 · exact Cbc.xor16_size _ _ (padB_size b (by omega)) (sub2_size _)
def tagS (key:ByteArray) (l:List UInt8):Nat -> ByteArray
 | 0 => zero
 | i + 1 => encK key (Sched.xorS (tagS key l i) (Oct.pc l 16 i))
theorem tagS_size (key:ByteArray) (l:List UInt8) (i:Nat):(tagS key l i).size = 16:=by
 cases i with
 | zero => exact zero_size
 | succ i => exact encK_size _ _
def tagK (key s:ByteArray):ByteArray:=encK key (Sched.xorS (tagS key s.data.toList (blkN s.size - 1)) (lastB key (Oct.pc s.data.toList 16 (blkN s.size - 1))))
theorem tagK_size (key s:ByteArray):(tagK key s).size = 16:=encK_size _ _
theorem zeros_m:Mak 148 #[.int .i64 16] (.string zero):=fun w => Oct.zeros_yes 16 w (by decide) (by decide)
theorem subkeys_calls (c:Nat) (key:ByteArray) (w:World) (hC:CipK w c key) (A B:ByteArray) (hA:A = sub1 key) (hB:B = sub2 key) :
   Calls Tryz.prog 147 #[.pointer (some ⟨c,0,none⟩)] w fun e w' => e = .returned (.tuple #[.string A,.string B,.int .i64 0]) /\ Since w w':=by
 have H0:=lH (Since.refl w)
 have HC:=lH hC
 obtain ⟨Z,hZ⟩:∃ Z,Z = zero:=⟨_,rfl⟩
 obtain ⟨Y,hY⟩:∃ Y,Y = encK key Z:=⟨_,rfl⟩
 have c1:=zeros_m
 rw [<- hZ] at c1
 have hZs:Z.size = 16:=by rw [hZ,zero_size]
 have c2:=fun w' (h:Since w w') => cenc_yes c key Z hZs Y hY w' (hC.since h)
 have c3:=double_yes Y (by rw [hY,encK_size]) A (by rw [hA,sub1,hY,hZ])
 have c4:=double_yes A (by rw [hA,sub1_size]) B (by rw [hB,sub2,hA])
 clear hC hZ hY hA hB hZs
 have H_c2:=lH c2
 clear c2
 go_enter Tryz.func147,Tryz.ntmps147
 go_wp2_with fail
 refine c1.calls H0.out ?_
 intro w1 h1
 have H1:=lH h1
 clear h1
 go_wp2_with fail
 refine (H_c2.out _ H1.out).mono ?_
 rintro e w2 ⟨rfl,h2⟩
 have H2:=lH (Since.step H1.out h2)
 clear h2
 go_wp2_with fail
 refine c3.calls H2.out ?_
 intro w3 h3
 have H3:=lH h3
 clear h3
 go_wp2_with fail
 refine c4.calls H3.out ?_
 intro w4 h4
 have H4:=lH h4
 clear h4
 go_wp2_with fail
 go_ret3
 exact ⟨rfl,H4.out⟩
theorem subkeys_yes (key:ByteArray) (hk:keyOk key) (A B:ByteArray) (hA:A = sub1 key) (hB:B = sub2 key):Mak 189 #[.string key] (.tuple #[.string A,.string B,.int .i64 0]):=by
 intro w
 have H0:=lH (Since.refl w)
 have c1:=new_key key hk
 have c2:=fun c w' (h:CipK w' c key) => subkeys_calls c key w' h A B hA hB
 clear hk hA hB
 have H_c2:=lH c2
 clear c2
 go_enter Tryz.func189,Tryz.ntmps189
 go_wp2_with fail
 refine c1 _ _ H0.out _ ?_
 intro c w1 hC _ h1
 have HC:=lH hC
 have H1:=lH h1
 clear hC h1
 go_wp2_with fail
 refine (H_c2.out c w1 HC.out).mono ?_
 rintro e w2 ⟨rfl,h2⟩
 have H2:=lH (Since.step H1.out h2)
 clear h2
 go_wp2_with fail
 go_ret3
 exact ⟨rfl,H2.out⟩
theorem blocks_nat (n:Nat) (hm:n <= 9223372036854775807) (x:Int) (hx:x = ((blkN n:Nat):Int)):Ret 149 #[.int .i64 (n:Int)] (.int .i64 x):=by
 intro w
 by_cases h0:n = 0
 · subst h0
   have hx1:x = 1:=hx
   subst hx1
   clear hx
   go_enter Tryz.func149,Tryz.ntmps149
   go_wp2_with fail
   go_ret
   exact ⟨rfl,rfl⟩
 · have hx1:x = ((n:Int) - 1) / 16 + 1:=by rw [hx,blkN,if_neg h0]; omega
   subst hx1
   have t1:decide ((n:Int) < 0) = false:=decide_eq_false (by omega)
   have t2:((n:Int) == 0) = false:=by rw [beq_eq_false_iff_ne]; omega
   have i1:(0:Int) <= (n:Int) - 1:=by omega
   clear h0 hx
   go_enter Tryz.func149,Tryz.ntmps149
   go_wp2_with fail
   go_ret
   exact ⟨rfl,rfl⟩
set_option maxHeartbeats 1000000 in
theorem last_mak (key b A B X:ByteArray) (hb:b.size <= 16) (hA:A = sub1 key) (hB:B = sub2 key) (hX:X = lastB key b):Mak 150 #[.string b,.string A,.string B] (.string X):=by
 intro w
 have H0:=lH (Since.refl w)
 have hAs:A.size = 16:=by rw [hA,sub1_size]
 have hBs:B.size = 16:=by rw [hB,sub2_size]
 by_cases h:b.size = 16
 · have t1:((b.size:Int) == 16) = true:=by rw [beq_iff_eq]; omega
   have c1:=Sched.xor_m b A (by omega) (by omega) X (by rw [hX,lastB,if_pos h,hA])
   clear h hX hA hB hAs hBs
   go_enter Tryz.func150,Tryz.ntmps150
   go_wp2_with fail
   refine c1.calls H0.out ?_
   intro w1 h1
   have H1:=lH h1
   clear h1
   go_wp2_with fail
   go_ret
   exact ⟨rfl,H1.out⟩
 · have t1:((b.size:Int) == 16) = false:=by rw [beq_eq_false_iff_ne]; omega
   have h9:b.data.toList.length = b.size:=rfl
   obtain ⟨J,hJ⟩:∃ J,J = bs (b.data.toList ++ [128]):=⟨_,rfl⟩
   have hJs:J.size = b.size + 1:=by rw [hJ,size_bs,List.length_append]; rfl
   have hJc:J = bs (Oct.cat [b,⟨#[128]⟩]):=by rw [hJ,Oct.cat_two]
   have c8:=fun W => Oct.join_lit W [b,⟨#[128]⟩] 2 rfl #[.string b,.string ⟨#[128]⟩] rfl J hJc (by omega) (by decide)
   have HC8:=lH c8
   obtain ⟨P,hP⟩:∃ P,P = padB b:=⟨_,rfl⟩
   have hPs:P.size = 16:=by rw [hP]; exact padB_size b (by omega)
   have c2:Mak 188 #[.string J,.int .i64 16] (.string P):=fun W => by
     by_cases h15:b.size = 15
     · have hPJ:P = J:=by rw [hP,hJ,padB,h15]; rfl
       rw [hPJ]
       exact (Oct.pad_even J 16 W (by omega) (by decide) (by decide) (by omega)).mono fun e w' ⟨he,hw⟩ => ⟨he,by subst hw; exact Below.refl _ _⟩
     · have h2:=Oct.pad_odd J 16 (b.size + 1) W (by omega) (by decide) (by decide) (by omega) (by omega)
       have hPJ:bs (J.data.toList ++ List.replicate (16 - (b.size + 1)) 0) = P:=by
         rw [hP,hJ,padB,list_bs,List.append_assoc,show 16 - (b.size + 1) = 15 - b.size from by omega]; rfl
       rw [hPJ] at h2
       exact h2
   have c3:=Sched.xor_m P B (by omega) (by omega) X (by rw [hX,lastB,if_neg h,hB,hP])
   clear h hX hA hB hAs hBs hJ hJs hJc c8 hP hPs h9
   go_enter Tryz.func150,Tryz.ntmps150
   go_wp2_with fail
   refine (HC8.out w).mono ?_
   rintro e w1 ⟨rfl,h1⟩
   have H1:=lH (Since.step H0.out h1)
   clear h1
   go_wp2_with fail
   refine c2.calls H1.out ?_
   intro w2 h2
   have H2:=lH h2
   clear h2
   go_wp2_with fail
   refine c3.calls H2.out ?_
   intro w3 h3
   have H3:=lH h3
   clear h3
   go_wp2_with fail
   go_ret
   exact ⟨rfl,H3.out⟩
end Cmac
namespace Cmac
open Rnd Aes
theorem cut_pc (s:ByteArray) (a k:Nat) (ha:a = 16 * k) (h:a < s.size ∨ s.size = 0 /\ k = 0) (hm:s.size <= 9223372036854775807) (P:ByteArray) (hP:P = Oct.pc s.data.toList 16 k):Ret 106 #[.string s,.int .i64 (a:Int),.int .i64 16] (.string P):=by
 intro w
 rcases h with h | ⟨h,hk⟩
 · have h1:=Oct.cut_yes s a 16 w hm (by decide) h (by decide)
   rw [ha] at h1
   rw [hP,ha]; exact h1
 · have h1:=Oct.cut_no s (a:Int) 16 w hm (by omega)
   have hl:s.data.toList = []:=List.eq_nil_of_length_eq_zero h
   rw [hP,Oct.pc,hl]
   have e:bs (List.take 16 (List.drop (16 * k) [])) = ⟨#[]⟩:=by rw [List.drop_nil,List.take_nil]; rfl
   rw [e]; exact h1
theorem blkN_pos (n:Nat):1 <= blkN n:=by unfold blkN; split <;> omega
theorem blk_in (s:Nat) (k:Nat) (h:k < blkN s):16 * k < s ∨ s = 0 /\ k = 0:=by
 unfold blkN at h
 split at h <;> omega
theorem blk_full (s k:Nat) (h:k + 1 < blkN s):16 * k + 16 <= s:=by
 unfold blkN at h
 split at h <;> omega
theorem pc_le (l:List UInt8) (k:Nat):(Oct.pc l 16 k).size <= 16:=by
 unfold Oct.pc
 rw [size_bs,List.length_take]; omega
def stK (key s:ByteArray) (k:Nat):ByteArray:=if k = blkN s.size then tagK key s else tagS key s.data.toList k
theorem stK_size (key s:ByteArray) (k:Nat):(stK key s k).size = 16:=by
 unfold stK
 split
 · exact tagK_size _ _
 · exact tagS_size _ _ _
set_option maxHeartbeats 2000000 in
theorem tag_yes (key s:ByteArray) (hk:keyOk key) (hm:s.size <= 1000000) (X:ByteArray) (hX:X = tagK key s):Mak 101 #[.string key,.string s] (.tuple #[.string X,.int .i64 0]):=by
 intro w
 have H0:=lH (Since.refl w)
 have c1:=new_key key hk
 obtain ⟨A,hA⟩:∃ A,A = sub1 key:=⟨_,rfl⟩
 obtain ⟨B,hB⟩:∃ B,B = sub2 key:=⟨_,rfl⟩
 obtain ⟨Z,hZ⟩:∃ Z,Z = zero:=⟨_,rfl⟩
 have c2:=fun c w' (h:CipK w' c key) => subkeys_calls c key w' h A B hA hB
 have c3:=zeros_m
 rw [<- hZ] at c3
 obtain ⟨n,hn⟩:∃ n,n = blkN s.size:=⟨_,rfl⟩
 have c4:=blocks_nat s.size (by omega) (n:Int) (by rw [hn])
 have hn1:1 <= n:=by rw [hn]; exact blkN_pos _
 have hn9:n <= 1000001:=by rw [hn,blkN]; split <;> omega
 have HN:=lH hn
 have HX:=lH hX
 have HA:=lH hA
 have HB:=lH hB
 have HZ:=lH hZ
 clear hk hX hA hB hZ hn
 have H_c2:=lH c2
 clear c2
 go_enter Tryz.func101,Tryz.ntmps101
 go_wp2_with fail
 refine c1 _ _ H0.out _ ?_
 intro c w1 hC _ h1
 have HC:=lH hC
 have H1:=lH h1
 clear hC h1
 go_wp2_with fail
 refine (H_c2.out c w1 HC.out).mono ?_
 rintro e w2 ⟨rfl,h2⟩
 have H2:=lH (Since.step H1.out h2)
 have HC2:=lH (HC.out.since h2)
 clear h2 HC
 have HW:=lH (Since.refl w2)
 go_wp2_with fail
 refine (c3).calls HW.out ?_
 intro w3 h3
 have H3:=lH h3
 clear h3
 go_wp2_with fail
 refine (c4).calls ?_
 go_wp2_with fail
 go_loopw [10,36] (fun v i wr => ∃ (k:Nat) (V:ByteArray),k <= n /\ i = .int .i64 (k:Int) /\ v = .string V /\ Hid (V = stK key s k) /\ Hid (Since w2 wr)) (fun _ i _ => n - (intOf i).toNat)
 case atStart => exact ⟨0,Z,by omega,rfl,rfl,lH (by rw [stK,if_neg (by rw [<- HN.out]; omega),HZ.out]; rfl),H3⟩
 case round =>
   obtain ⟨k,V,hkn,rfl,rfl,HV,HS⟩:=hrel
   by_cases hlt:k < n
   · have hd:decide ((k:Int) < (n:Int)) = true:=decide_eq_true (by omega)
     obtain ⟨a,ha⟩:∃ a,a = 16 * k:=⟨_,rfl⟩
     have e1:(k:Int) * 16 = (a:Int):=by omega
     obtain ⟨P,hP⟩:∃ P,P = Oct.pc s.data.toList 16 k:=⟨_,rfl⟩
     have c5:=cut_pc s a k ha (by have h:=blk_in s.size k (by rw [<- HN.out]; exact hlt); omega) (by omega) P hP
     have hP16:P.size <= 16:=by rw [hP]; exact pc_le _ _
     have hVs:V.size = 16:=by rw [HV.out]; exact stK_size _ _ _
     have hV2:V = tagS key s.data.toList k:=by rw [HV.out,stK,if_neg (by rw [<- HN.out]; omega)]
     by_cases hl:k + 1 = n
     · have t1:((k:Int) == (n:Int) - 1) = true:=by rw [beq_iff_eq]; omega
       obtain ⟨L,hL⟩:∃ L,L = lastB key P:=⟨_,rfl⟩
       have c6:=last_mak key P A B L hP16 HA.out HB.out hL
       have hLs:L.size = 16:=by rw [hL]; exact lastB_size key P hP16
       obtain ⟨Q,hQ⟩:∃ Q,Q = Sched.xorS V L:=⟨_,rfl⟩
       have c7:=Sched.xor_m V L (by omega) (by omega) Q hQ
       have hQs:Q.size = 16:=by rw [hQ]; exact Cbc.xor16_size _ _ hVs hLs
       obtain ⟨Y,hY⟩:∃ Y,Y = encK key Q:=⟨_,rfl⟩
       have hYs:Y = stK key s (k + 1):=by
         rw [stK,if_pos (by rw [<- HN.out]; exact hl),tagK,<- HN.out,show n - 1 = k from by omega,<- hP,<- hL,<- hV2,<- hQ,hY]
       have c8:=fun w' (h:Since w2 w') => cenc_yes c key Q hQs Y hY w' (HC2.out.since h)
       clear hP hP16 hVs hV2 hl hL hLs hQ hQs hY ha
       have HYs:=lH hYs
       clear hYs
       have H_c8:=lH c8
       clear c8
       go_wp2_with fail
       refine (c5).calls ?_
       go_wp2_with fail
       refine c6.calls HS.out ?_
       intro w4 h4
       have H4:=lH h4
       clear h4
       go_wp2_with fail
       refine c7.calls H4.out ?_
       intro w5 h5
       have H5:=lH h5
       clear h5
       go_wp2_with fail
       refine (H_c8.out _ H5.out).mono ?_
       rintro e w6 ⟨rfl,h6⟩
       have H6:=lH (Since.step H5.out h6)
       clear h6
       go_wp2_with fail
       go_roundw
       case rel => exact ⟨k + 1,Y,by omega,by go_num,rfl,HYs,H6⟩
       case measure => simp [intOf]; omega
     · have t1:((k:Int) == (n:Int) - 1) = false:=by rw [beq_eq_false_iff_ne]; omega
       have hPs:P.size = 16:=by
         have:=blk_full s.size k (by rw [<- HN.out]; omega)
         rw [hP]; exact Cbc.pc_size _ _ (by show 16 * k + 16 <= s.size; omega)
       obtain ⟨Q,hQ⟩:∃ Q,Q = Sched.xorS V P:=⟨_,rfl⟩
       have c7:=Sched.xor_m V P (by omega) (by omega) Q hQ
       have hQs:Q.size = 16:=by rw [hQ]; exact Cbc.xor16_size _ _ hVs hPs
       obtain ⟨Y,hY⟩:∃ Y,Y = encK key Q:=⟨_,rfl⟩
       have hYs:Y = stK key s (k + 1):=by
         rw [stK,if_neg (by rw [<- HN.out]; exact hl),tagS,<- hP,<- hV2,<- hQ,hY]
       have c8:=fun w' (h:Since w2 w') => cenc_yes c key Q hQs Y hY w' (HC2.out.since h)
       clear hP hP16 hVs hV2 hl hPs hQ hQs hY ha
       have HYs:=lH hYs
       clear hYs
       have H_c8:=lH c8
       clear c8
       go_wp2_with fail
       refine (c5).calls ?_
       go_wp2_with fail
       refine c7.calls HS.out ?_
       intro w4 h4
       have H4:=lH h4
       clear h4
       go_wp2_with fail
       refine (H_c8.out _ H4.out).mono ?_
       rintro e w6 ⟨rfl,h6⟩
       have H6:=lH (Since.step H4.out h6)
       clear h6
       go_wp2_with fail
       go_roundw
       case rel => exact ⟨k + 1,Y,by omega,by go_num,rfl,HYs,H6⟩
       case measure => simp [intOf]; omega
   · have hd:decide ((k:Int) < (n:Int)) = false:=decide_eq_false (by omega)
     have e:V = X:=by rw [HV.out,HX.out,stK,if_pos (by rw [<- HN.out]; omega)]
     subst e
     go_wp2_with fail
     go_ret2
     exact ⟨rfl,Since.step H2.out HS.out⟩
end Cmac
namespace RefCmac
open Rnd Aes Cmac
theorem zeros_m:Mak 130 #[.int .i64 16] (.string zero):=RefOct.zeros_yes 16 (by decide) (by decide)
theorem subkeys_yes (key:ByteArray) (hk:keyOk key) (A B:ByteArray) (hA:A = sub1 key) (hB:B = sub2 key):Mak 129 #[.string key] (.tuple #[.string A,.string B,.int .i64 0]):=by
 intro w
 have H0:=lH (Since.refl w)
 obtain ⟨Z,hZ⟩:∃ Z,Z = zero:=⟨_,rfl⟩
 obtain ⟨Y,hY⟩:∃ Y,Y = encK key Z:=⟨_,rfl⟩
 have c1:=zeros_m
 rw [<- hZ] at c1
 have c2:=RefAes.enc_yes key Z hk (by rw [hZ,zero_size]) Y hY
 have c3:=RefCmac.double_yes Y (by rw [hY,encK_size]) A (by rw [hA,sub1,hY,hZ])
 have c4:=RefCmac.double_yes A (by rw [hA,sub1_size]) B (by rw [hB,sub2,hA])
 clear hk hZ hY hA hB
 go_enter Tryz.func129,Tryz.ntmps129
 go_wp2_with fail
 refine c1.calls H0.out ?_
 intro w1 h1
 have H1:=lH h1
 clear h1
 go_wp2_with fail
 refine c2.calls H1.out ?_
 intro w2 h2
 have H2:=lH h2
 clear h2
 go_wp2_with fail
 refine c3.calls H2.out ?_
 intro w3 h3
 have H3:=lH h3
 clear h3
 go_wp2_with fail
 refine c3.calls H3.out ?_
 intro w4 h4
 have H4:=lH h4
 clear h4
 go_wp2_with fail
 refine c4.calls H4.out ?_
 intro w5 h5
 have H5:=lH h5
 clear h5
 go_wp2_with fail
 go_ret3
 exact ⟨rfl,H5.out⟩
theorem pad_ref (b J P:ByteArray) (hb:b.size <= 15) (hJ:J = b ++ ⟨#[128]⟩) (hP:P = padB b):Mak 131 #[.string J,.int .i64 16] (.string P):=by
 have h9:b.data.toList.length = b.size:=rfl
 have hJs:J.size = b.size + 1:=by
   show J.data.toList.length = _
   rw [hJ,app_list,List.length_append]; rfl
 have h:=RefOct.pad_yes J 16 (by omega) (by decide) (by decide) (15 - b.size) (by rw [hJs]; omega) (fun k hk => by rw [hJs]; omega) (by omega)
 have e:bs (J.data.toList ++ List.replicate (15 - b.size) 0) = P:=by
   rw [hP,hJ,padB,app_list,List.append_assoc]; rfl
 rw [e] at h
 exact h
theorem drop_pc (s R:ByteArray) (k:Nat) (hR:R.data.toList = s.data.toList.drop (16 * k)):R.extract 0 16 = Oct.pc s.data.toList 16 k:=by
 apply ba_ext
 rw [ext_list,hR,Oct.pc,list_bs,List.drop_zero]
theorem drop_next (s R:ByteArray) (k:Nat) (hR:R.data.toList = s.data.toList.drop (16 * k)):(R.extract 16 R.size).data.toList = s.data.toList.drop (16 * (k + 1)):=by
 have h9:R.data.toList.length = R.size:=rfl
 rw [ext_list,List.take_of_length_le (by rw [List.length_drop]; omega),hR,List.drop_drop]
 congr 1
theorem rest_pc (s R:ByteArray) (k:Nat) (hR:R.data.toList = s.data.toList.drop (16 * k)) (h:R.size <= 16):R = Oct.pc s.data.toList 16 k:=by
 have h9:R.data.toList.length = R.size:=rfl
 apply ba_ext
 rw [Oct.pc,list_bs,<- hR,List.take_of_length_le (by omega)]
set_option maxHeartbeats 2000000 in
theorem tag_yes (key s:ByteArray) (hk:keyOk key) (hm:s.size <= 1000000) (X:ByteArray) (hX:X = tagK key s):Mak 82 #[.string key,.string s] (.tuple #[.string X,.int .i64 0]):=by
 intro w
 have H0:=lH (Since.refl w)
 obtain ⟨A,hA⟩:∃ A,A = sub1 key:=⟨_,rfl⟩
 obtain ⟨B,hB⟩:∃ B,B = sub2 key:=⟨_,rfl⟩
 obtain ⟨Z,hZ⟩:∃ Z,Z = zero:=⟨_,rfl⟩
 have c1:=RefCmac.subkeys_yes key hk A B hA hB
 have c3:=zeros_m
 rw [<- hZ] at c3
 have HX:=lH hX
 have HA:=lH hA
 have HB:=lH hB
 have HZ:=lH hZ
 have HK:=lH hk
 clear hk hX hA hB hZ
 go_enter Tryz.func82,Tryz.ntmps82
 go_wp2_with fail
 refine c1.calls H0.out ?_
 intro w1 h1
 have H1:=lH h1
 clear h1
 go_wp2_with fail
 refine c3.calls H1.out ?_
 intro w2 h2
 have H2:=lH h2
 clear h2
 go_wp2_with fail
 go_loopw [1,9] (fun t v wr => ∃ (k:Nat) (R V:ByteArray),t = .string R /\ v = .string V /\ Hid (R.data.toList = s.data.toList.drop (16 * k)) /\ R.size <= 1000000 /\ Hid (16 * k < s.size ∨ k = 0) /\ Hid (V = tagS key s.data.toList k) /\ Hid (Since w wr)) (fun t _ _ => match t with | .string r => r.size | _ => 0)
 case atStart => exact ⟨0,s,Z,rfl,rfl,lH rfl,hm,lH (Or.inr rfl),lH (by rw [HZ.out]; rfl),H2⟩
 case round =>
   obtain ⟨k,R,V,rfl,rfl,HR,hR9,HK0,HV,HS⟩:=hrel
   have hVs:V.size = 16:=by rw [HV.out]; exact tagS_size _ _ _
   have hRs:R.size = s.size - 16 * k:=by
     show R.data.toList.length = _
     rw [HR.out,List.length_drop]; rfl
   by_cases hlt:16 < R.size
   · have hd:decide ((16:Int) < (R.size:Int)) = true:=decide_eq_true (by omega)
     obtain ⟨P,hP⟩:∃ P,P = Oct.pc s.data.toList 16 k:=⟨_,rfl⟩
     have he:=drop_pc s R k HR.out
     rw [<- hP] at he
     have hn:=drop_next s R k HR.out
     have hPs:P.size = 16:=by rw [hP]; exact Cbc.pc_size _ _ (by show 16 * k + 16 <= s.size; omega)
     obtain ⟨Q,hQ⟩:∃ Q,Q = Sched.xorS V P:=⟨_,rfl⟩
     have c7:=RefSched.xor_m V P (by omega) (by omega) Q hQ
     have hQs:Q.size = 16:=by rw [hQ]; exact Cbc.xor16_size _ _ hVs hPs
     obtain ⟨Y,hY⟩:∃ Y,Y = encK key Q:=⟨_,rfl⟩
     have hYs:Y = tagS key s.data.toList (k + 1):=by rw [tagS,<- hP,<- HV.out,<- hQ,hY]
     have c8:=RefAes.enc_yes key Q HK.out hQs Y hY
     have hk1:16 * (k + 1) < s.size ∨ k + 1 = 0:=by omega
     have i1:(16:Int) <= (R.size:Int):=by omega
     have hz:(R.extract 16 R.size).size < R.size:=by
       show (R.extract 16 R.size).data.toList.length < _
       rw [hn,List.length_drop]
       have:s.data.toList.length = s.size:=rfl
       omega
     clear hP hPs hVs hRs hQ hQs hY
     have HYs:=lH hYs
     clear hYs
     have Hn:=lH hn
     clear hn
     have Hk1:=lH hk1
     clear hk1
     have Hz:=lH hz
     clear hz
     go_wp2_with fail
     refine c7.calls HS.out ?_
     intro w3 h3
     have H3:=lH h3
     clear h3
     go_wp2_with fail
     refine c8.calls H3.out ?_
     intro w4 h4
     have H4:=lH h4
     clear h4
     go_wp2_with fail
     go_roundw
     case rel => exact ⟨k + 1,_,Y,rfl,rfl,Hn,by have:=Hz.out; omega,Hk1,HYs,H4⟩
     case measure => exact Hz.out
   · have hd:decide ((16:Int) < (R.size:Int)) = false:=decide_eq_false (by omega)
     obtain ⟨P,hP⟩:∃ P,P = Oct.pc s.data.toList 16 k:=⟨_,rfl⟩
     have hRP:=rest_pc s R k HR.out (by omega)
     rw [<- hP] at hRP
     have hkn:blkN s.size - 1 = k:=by
       rcases HK0.out with h | h
       · unfold blkN; split <;> omega
       · subst h; unfold blkN; split <;> omega
     obtain ⟨L,hL⟩:∃ L,L = lastB key R:=⟨_,rfl⟩
     have hLs:L.size = 16:=by rw [hL]; exact lastB_size key R (by omega)
     obtain ⟨Q,hQ⟩:∃ Q,Q = Sched.xorS V L:=⟨_,rfl⟩
     have c7:=RefSched.xor_m V L (by omega) (by omega) Q hQ
     have hQs:Q.size = 16:=by rw [hQ]; exact Cbc.xor16_size _ _ hVs hLs
     have c8:=RefAes.enc_yes key Q HK.out hQs X (by rw [HX.out,tagK,hkn,<- hP,<- hRP,<- hL,<- HV.out,<- hQ])
     by_cases h16:R.size = 16
     · have t1:((R.size:Int) == 16) = true:=by rw [beq_iff_eq]; omega
       have hAs:A.size = 16:=by rw [HA.out,sub1_size]
       have c5:=RefSched.xor_m R A (by omega) (by omega) L (by rw [hL,lastB,if_pos h16,HA.out])
       clear hP hRP hkn hL hLs hQ hQs hVs hRs h16 hAs hlt
       go_wp2_with fail
       refine c5.calls HS.out ?_
       intro w3 h3
       have H3:=lH h3
       clear h3
       go_wp2_with fail
       refine c7.calls H3.out ?_
       intro w4 h4
       have H4:=lH h4
       clear h4
       go_wp2_with fail
       refine c8.calls H4.out ?_
       intro w5 h5
       have H5:=lH h5
       clear h5
       go_wp2_with fail
       go_ret2
       exact ⟨rfl,H5.out⟩
     · have t1:((R.size:Int) == 16) = false:=by rw [beq_eq_false_iff_ne]; omega
       have hBs:B.size = 16:=by rw [HB.out,sub2_size]
       obtain ⟨J,hJ⟩:∃ J,J = R ++ ⟨#[128]⟩:=⟨_,rfl⟩
       obtain ⟨D,hD⟩:∃ D,D = padB R:=⟨_,rfl⟩
       have hDs:D.size = 16:=by rw [hD]; exact padB_size R (by omega)
       have c4:=pad_ref R J D (by omega) hJ hD
       have c5:=RefSched.xor_m D B (by omega) (by omega) L (by rw [hL,lastB,if_neg h16,HB.out,hD])
       have hsz:¬ 9223372036854775807 < R.size + 1:=by omega
       clear hP hRP hkn hL hLs hQ hQs hVs hRs h16 hBs hD hDs hlt
       have HJ:=lH hJ
       clear hJ
       go_wp2_with fail
       rw [<- HJ.out]
       refine c4.calls HS.out ?_
       intro w3 h3
       have H3:=lH h3
       clear h3
       go_wp2_with fail
       refine c5.calls H3.out ?_
       intro w4 h4
       have H4:=lH h4
       clear h4
       go_wp2_with fail
       refine c7.calls H4.out ?_
       intro w5 h5
       have H5:=lH h5
       clear h5
       go_wp2_with fail
       refine c8.calls H5.out ?_
       intro w6 h6
       have H6:=lH h6
       clear h6
       go_wp2_with fail
       go_ret2
       exact ⟨rfl,H6.out⟩
end RefCmac
namespace Cmac
open Rnd Aes
theorem check_yes (key s t:ByteArray) (hk:keyOk key) (hm:s.size <= 1000000) (ht:t.size <= 1000000) (q:Bool) (hq:q = decide (tagK key s = t)):Mak 74 #[.string key,.string s,.string t] (.tuple #[.bool q,.int .i64 0]):=by
 intro w
 have H0:=lH (Since.refl w)
 obtain ⟨T,hT⟩:∃ T,T = tagK key s:=⟨_,rfl⟩
 have c1:=tag_yes key s hk hm T hT
 obtain ⟨n,c2⟩:=Scan.scan_m T t (by rw [hT,tagK_size]; omega) (by omega) q (by rw [hT]; exact hq)
 clear hk hT hq
 go_enter Tryz.func74,Tryz.ntmps74
 go_wp2_with fail
 refine c1.calls H0.out ?_
 intro w1 h1
 have H1:=lH h1
 clear h1
 go_wp2_with fail
 refine c2.calls H1.out ?_
 intro w2 h2
 have H2:=lH h2
 clear h2
 go_wp2_with fail
 go_ret2
 exact ⟨rfl,H2.out⟩
end Cmac
namespace Kdf
open Rnd Aes Cmac
def rndN (n:Int):Nat:=if n < 1 ∨ 4080 < n then 0 else (n.toNat - 1) / 16 + 1
theorem rounds_ret (n:Int) (hn:n <= 9223372036854775807) (x:Int) (hx:x = ((rndN n:Nat):Int)):Ret 190 #[.int .i64 n] (.int .i64 x):=by
 intro w
 by_cases h:n < 1 ∨ 4080 < n
 · have hx0:x = 0:=by rw [hx,rndN,if_pos h]; rfl
   subst hx0
   clear hx
   by_cases h1:n < 1
   · have t1:decide (n < 1) = true:=decide_eq_true h1
     clear h
     go_enter Tryz.func190,Tryz.ntmps190
     go_wp2_with fail
     go_ret
     exact ⟨rfl,rfl⟩
   · have t1:decide (n < 1) = false:=decide_eq_false h1
     have t2:decide ((4080:Int) < n) = true:=decide_eq_true (by omega)
     clear h
     go_enter Tryz.func190,Tryz.ntmps190
     go_wp2_with fail
     go_ret
     exact ⟨rfl,rfl⟩
 · have hx0:x = (n - 1) / 16 + 1:=by rw [hx,rndN,if_neg h]; omega
   subst hx0
   have t1:decide (n < 1) = false:=decide_eq_false (by omega)
   have t2:decide ((4080:Int) < n) = false:=decide_eq_false (by omega)
   have i1:(0:Int) <= n - 1:=by omega
   have i2:n <= 4080:=by omega
   clear h hx
   go_enter Tryz.func190,Tryz.ntmps190
   go_wp2_with fail
   go_ret
   exact ⟨rfl,rfl⟩
def tgT (fixed:ByteArray) (i:Nat):ByteArray:=bs (UInt8.ofNat (i + 1) :: fixed.data.toList)
def tg (key fixed:ByteArray) (i:Nat):ByteArray:=tagK key (tgT fixed i)
def tags (key fixed:ByteArray) (k:Nat):List ByteArray:=(List.range k).map (tg key fixed)
theorem tags_len (key fixed:ByteArray) (k:Nat):(tags key fixed k).length = k:=by simp [tags]
theorem tags_succ (key fixed:ByteArray) (k:Nat):tags key fixed (k + 1) = tags key fixed k ++ [tg key fixed k]:=by simp [tags,List.range_succ]
def outL (key fixed:ByteArray) (k:Nat):List UInt8:=Oct.cat (tags key fixed k)
theorem outL_succ (key fixed:ByteArray) (k:Nat):outL key fixed (k + 1) = outL key fixed k ++ (tg key fixed k).data.toList:=by
 unfold outL; rw [tags_succ,Oct.cat_snoc]
theorem outL_len (key fixed:ByteArray) (k:Nat):(outL key fixed k).length = 16 * k:=by
 induction k with
 | zero => rfl
 | succ k ih =>
   rw [outL_succ,List.length_append,ih]
   have:(tg key fixed k).data.toList.length = 16:=tagK_size _ _
   omega
def cntK (key fixed:ByteArray) (n:Int):ByteArray:=bs ((outL key fixed (rndN n)).take n.toNat)
theorem cut_0 (s:ByteArray) (n:Nat) (h1:1 <= n) (hn:n <= 9223372036854775807) (hs:0 < s.size) (hm:s.size <= 9223372036854775807) (X:ByteArray) (hX:X = bs (s.data.toList.take n)):Ret 106 #[.string s,.int .i64 0,.int .i64 (n:Int)] (.string X):=fun w => by
 have h:=Oct.cut_yes s 0 n w hm hn hs h1
 rw [List.drop_zero] at h
 rw [hX]; exact h
set_option maxHeartbeats 4000000 in
theorem counter_yes (key fixed:ByteArray) (m:Nat) (hk:keyOk key) (h1:1 <= m) (h2:m <= 4080) (hf:fixed.size <= 100000) (X:ByteArray) (hX:X = cntK key fixed (m:Int)):Mak 152 #[.string key,.string fixed,.int .i64 (m:Int)] (.tuple #[.string X,.int .i64 0]):=by
 intro w
 have H0:=lH (Since.refl w)
 obtain ⟨A,hA⟩:∃ A,A = sub1 key:=⟨_,rfl⟩
 obtain ⟨B,hB⟩:∃ B,B = sub2 key:=⟨_,rfl⟩
 have c1:=subkeys_yes key hk A B hA hB
 obtain ⟨n,hn⟩:∃ n,n = rndN (m:Int):=⟨_,rfl⟩
 have hn2:n = (m - 1) / 16 + 1:=by rw [hn,rndN,if_neg (by omega)]; simp
 have c2:=rounds_ret (m:Int) (by omega) (n:Int) (by rw [hn])
 have tn:((n:Int) == 0) = false:=by rw [beq_eq_false_iff_ne]; omega
 have hn255:n <= 255:=by omega
 have HN2:=lH hn2
 have HX:Hid (X = bs ((outL key fixed n).take m)):=lH (by rw [hX,cntK,<- hn]; rfl)
 have HK:=lH hk
 clear hk hX hA hB hn hn2
 go_enter Tryz.func152,Tryz.ntmps152
 go_wp2_with fail
 refine c1.calls H0.out ?_
 intro w1 h1
 have H1:=lH h1
 clear h1
 go_wp2_with fail
 refine (c2).calls ?_
 go_wp2_with fail
 refine (c2).calls ?_
 go_wp2_with fail
 have HP0:Hid (Sched.PK w1 (.slice none 0 0) [] w1):=lH ⟨Since.refl _,World.ownsRow_nil _ _ _ _⟩
 go_loopw [11,29] (fun v i wr => ∃ (k:Nat) (V:Value),k <= n /\ i = .int .i64 (k:Int) /\ V = v /\ Hid (Sched.PK w1 V (tags key fixed k) wr)) (fun _ i _ => n - (intOf i).toNat)
 case atStart => exact ⟨0,_,by omega,rfl,rfl,HP0⟩
 case round =>
   clear HP0
   obtain ⟨k,V,hkn,rfl,rfl,HP⟩:=hrel
   by_cases hlt:k < n
   · have hd:decide ((k:Int) < (n:Int)) = true:=decide_eq_true (by omega)
     have e1:IntKind.u64.wrap (k:Int) = (k:Int):=IntWalk.u64_in _ (by omega)
     have e2:IntKind.u64.wrap ((k:Int) + 1) = (k:Int) + 1:=IntWalk.u64_in _ (by omega)
     obtain ⟨p,hp⟩:∃ p,p = bs [UInt8.ofNat (k + 1)]:=⟨_,rfl⟩
     have c3:Mak 57 #[.int .u64 ((k:Int) + 1),.int .i64 1] (.string p):=fun w => by
       have h:=Oct.put_mid ((k + 1:Nat):Int) 1 w (by omega) (by omega) (by decide) (by decide)
       rw [Sched.put1 (k + 1) (by omega),<- hp] at h
       simpa using h
     obtain ⟨J,hJ⟩:∃ J,J = tgT fixed k:=⟨_,rfl⟩
     have hJs:J.size = fixed.size + 1:=by rw [hJ,tgT,size_bs,List.length_cons]; rfl
     have hJc:J = bs (Oct.cat [p,fixed]):=by rw [hJ,hp,Oct.cat_two]; rfl
     have c8:=fun W => Oct.join_lit W [p,fixed] 2 rfl #[.string p,.string fixed] rfl J hJc (by omega) (by decide)
     obtain ⟨T,hT⟩:∃ T,T = tg key fixed k:=⟨_,rfl⟩
     have c4:=tag_yes key J HK.out (by omega) T (by rw [hT,tg,hJ])
     have HC8:=lH c8
     have HT:=lH hT
     have HF:=lH (Since.refl wr)
     clear hp hJ hJs hJc c8 hT
     go_wp2_with fail
     refine c3.calls HF.out ?_
     intro w2 h2
     have H2:=lH h2
     clear h2
     go_wp2_with fail
     refine (HC8.out w2).mono ?_
     rintro e w3 ⟨rfl,h3⟩
     have H3:=lH (Since.step H2.out h3)
     clear h3
     go_wp2_with fail
     refine (c4).calls H3.out ?_
     intro w4 h4
     have H4:=lH h4
     clear h4
     have hP4:=Sched.pkstep H4.out HP
     have hO4:=hP4.out.own
     unfold Strs at hO4
     rw [tags_len] at hO4
     have HO4:=lH hO4
     have HS4:=lH hP4.out.since
     clear hP4 hO4
     go_wp2_with (at_builtin; refine app_one elemS rfl _ _ rfl w1 w4 V k _ (by rfl) HO4.out HS4.out _ (by rfl) rfl (by omega) (by decide) ?_)
     intro v' w5 hO5 hS5
     have HO5:=lH hO5
     clear hO5
     have HS5:=lH hS5
     clear hS5
     go_wp2_with fail
     go_roundw
     case rel => exact ⟨k + 1,_,by omega,by go_num,rfl,lH ⟨HS5.out,by unfold Strs; rw [tags_len,tags_succ,List.map_append,<- HT.out]; exact HO5.out⟩⟩
     case measure => simp [intOf]; omega
   · have hd:decide ((k:Int) < (n:Int)) = false:=decide_eq_false (by omega)
     have hkn2:k = n:=by omega
     obtain ⟨J,hJ⟩:∃ J,J = bs (outL key fixed k):=⟨_,rfl⟩
     have hJs:J.size = 16 * k:=by rw [hJ,size_bs,outL_len]
     have c5:Calls Tryz.prog 56 #[V] wr fun e w' => e = .returned (.string J) /\ Below wr.heap.size wr w':=by
       rw [hJ]
       exact Oct.join_strs wr V _ (Strs.read HP.out.own) (by show (outL key fixed k).length <= _; rw [outL_len]; omega) (by rw [tags_len]; omega)
     have c6:=cut_0 J m (by omega) (by omega) (by have:=HN2.out; omega) (by omega) X (by rw [HX.out,hJ,list_bs,hkn2])
     clear hJ hJs hkn2
     have H_c5:=lH c5
     clear c5
     go_wp2_with fail
     refine H_c5.out.mono ?_
     rintro e w5 ⟨rfl,h5⟩
     have H5:=lH (Since.step (Since.step H1.out HP.out.since) h5)
     clear h5
     go_wp2_with fail
     refine (c6).calls ?_
     go_wp2_with fail
     go_ret2
     exact ⟨rfl,H5.out⟩
end Kdf
end Go.Proofs.YtddlaafpianjbaaGreatDoor
