import Derived.Test.YtddlaafpianjbaaGreatDoorBo13
import Derived.Test.YtddlaafpianjbaaGreatDoorBo10
import Derived.Test.YtddlaafpianjbaaGreatDoorBo17
import Derived.Test.YtddlaafpianjbaaGreatDoorBo18
set_option maxRecDepth 100000
namespace Go.Proofs.YtddlaafpianjbaaGreatDoor
open Go.RowKit
namespace Rnd
def shiftL:List UInt8 -> List UInt8:=pickL fun r c => (c + r) % 4
def unshiftL:List UInt8 -> List UInt8:=pickL fun r c => (c + 4 - r) % 4
def mixF (j:Nat):Nat:=[2,3,1,1].getD j 0
def unmixF (j:Nat):Nat:=[14,11,13,9].getD j 0
def Z16:Array Value:=#[.int .u8 0,.int .u8 0,.int .u8 0,.int .u8 0,.int .u8 0,.int .u8 0,.int .u8 0,.int .u8 0,.int .u8 0,.int .u8 0,.int .u8 0,.int .u8 0,.int .u8 0,.int .u8 0,.int .u8 0,.int .u8 0]
theorem pickL_len (sel:Nat -> Nat -> Nat) (l:List UInt8):(pickL sel l).length = 16:=mk16_len _
theorem mixL_len (fac:Nat -> Nat) (l:List UInt8):(mixL fac l).length = 16:=mk16_len _
theorem lt_of_heap {w:World} {b:Nat} {o:Obj} (h:w.heap[b]? = some o):b < w.heap.size:=(Array.getElem?_eq_some_iff.1 h).1
end Rnd
namespace Rnd
def xorL (a b:List UInt8):List UInt8:=mk16 fun i => ent a i ^^^ ent b i
theorem xor_str (a b:List UInt8):strOfNums ((List.range 16).map (Oct.xorV a b)) = bs (xorL a b):=by
 apply ba_ext
 rw [nums_list,list_bs,List.map_map]
 unfold xorL mk16
 apply List.map_congr_left
 intro i _
 show UInt8.ofNat (Oct.xorV a b i).toNat = UInt8.ofNat (ent a i ^^^ ent b i)
 rfl
def subL (l:List UInt8):List UInt8:=l.map fun c => UInt8.ofNat (Sbox.sub c.toNat)
def backL (l:List UInt8):List UInt8:=l.map fun c => UInt8.ofNat (Sbox.back c.toNat)
theorem sub_str (l:List UInt8):strOfNums (l.map fun c => ((Sbox.sub c.toNat:Nat):Int)) = bs (subL l):=by
 apply ba_ext; rw [nums_list,list_bs,List.map_map]; exact List.map_congr_left fun c _ => congrArg UInt8.ofNat (Int.toNat_natCast _)
theorem back_str (l:List UInt8):strOfNums (l.map fun c => ((Sbox.back c.toNat:Nat):Int)) = bs (backL l):=by
 apply ba_ext; rw [nums_list,list_bs,List.map_map]; exact List.map_congr_left fun c _ => congrArg UInt8.ofNat (Int.toNat_natCast _)
theorem subs_m (s:ByteArray) (hm:s.size <= 140737488355328) (X:ByteArray) (hX:X = bs (subL s.data.toList)):Mak 256 #[.string s] (.string X):=by
 rw [hX,<- sub_str]; exact Sbox.subs_mak s (by omega)
def doL (last:Bool) (l k:List UInt8):List UInt8:=xorL (if last then shiftL (subL l) else mixL mixF (shiftL (subL l))) k
def undoL (last:Bool) (l k:List UInt8):List UInt8:=backL (if last then unshiftL (xorL l k) else unshiftL (mixL unmixF (xorL l k)))
theorem bs_len (l:List UInt8) (h:l.length = 16):(bs l).size = 16:=by rw [size_bs,h]
theorem subL_len (l:List UInt8):(subL l).length = l.length:=by simp [subL]
theorem backL_len (l:List UInt8):(backL l).length = l.length:=by simp [backL]
theorem shiftL_len (l:List UInt8):(shiftL l).length = 16:=pickL_len _ _
theorem unshiftL_len (l:List UInt8):(unshiftL l).length = 16:=pickL_len _ _
theorem xorL_len (a b:List UInt8):(xorL a b).length = 16:=mk16_len _
end Rnd
namespace Rnd
theorem ext16 (a b:List UInt8) (ha:a.length = 16) (hb:b.length = 16) (h:∀ i,i < 16 -> ent a i = ent b i):a = b:=by
 apply List.ext_getElem?
 intro i
 by_cases hi:i < 16
 · have h1:=h i hi
   unfold ent at h1
   have h2:=UInt8.toNat_inj.1 h1
   rw [List.getElem?_eq_getElem (by omega),List.getElem?_eq_getElem (by omega)]
   simp [List.getD,List.getElem?_eq_getElem (show i < a.length by omega),List.getElem?_eq_getElem (show i < b.length by omega)] at h2
   rw [h2]
 · rw [List.getElem?_eq_none (by omega),List.getElem?_eq_none (by omega)]
theorem pick_ent (sel:Nat -> Nat -> Nat) (l:List UInt8) (i:Nat) (hi:i < 16):ent (pickL sel l) i = ent l (4 * sel (i % 4) (i / 4) + i % 4):=mk16_ent (fun i => ent l (4 * sel (i % 4) (i / 4) + i % 4)) i hi (ent_lt _ _)
theorem shift_ent (l:List UInt8) (i:Nat) (hi:i < 16):ent (shiftL l) i = ent l (4 * ((i / 4 + i % 4) % 4) + i % 4):=pick_ent _ l i hi
theorem unshift_ent (l:List UInt8) (i:Nat) (hi:i < 16):ent (unshiftL l) i = ent l (4 * ((i / 4 + 4 - i % 4) % 4) + i % 4):=pick_ent _ l i hi
theorem xor_ent (a b:List UInt8) (i:Nat) (hi:i < 16):ent (xorL a b) i = ent a i ^^^ ent b i:=mk16_ent (fun i => ent a i ^^^ ent b i) i hi (Nat.xor_lt_two_pow (n:=8) (ent_lt _ _) (ent_lt _ _))
theorem mix_ent (fac:Nat -> Nat) (l:List UInt8) (i:Nat) (hi:i < 16):ent (mixL fac l) i = mixP fac l i 4:=mk16_ent (fun i => mixP fac l i 4) i hi (mixP_lt _ _ _ _)
theorem unshift_shift (l:List UInt8) (hl:l.length = 16):unshiftL (shiftL l) = l:=by
 refine ext16 _ _ (unshiftL_len _) hl fun i hi => ?_
 rw [unshift_ent _ _ hi,shift_ent _ _ (by omega)]
 congr 1
 omega
theorem shift_unshift (l:List UInt8) (hl:l.length = 16):shiftL (unshiftL l) = l:=by
 refine ext16 _ _ (shiftL_len _) hl fun i hi => ?_
 rw [shift_ent _ _ hi,unshift_ent _ _ (by omega)]
 congr 1
 omega
theorem xor_xor (a b:List UInt8) (ha:a.length = 16):xorL (xorL a b) b = a:=by
 refine ext16 _ _ (xorL_len _ _) ha fun i hi => ?_
 rw [xor_ent _ _ _ hi,xor_ent _ _ _ hi,Nat.xor_assoc,Nat.xor_self,Nat.xor_zero]
theorem sb_all:(List.range 256).all (fun x => Sbox.back (Sbox.sub x) == x && Sbox.sub (Sbox.back x) == x) = true:=by decide +kernel
theorem sb (x:Nat) (h:x < 256):Sbox.back (Sbox.sub x) = x /\ Sbox.sub (Sbox.back x) = x:=by
 have:=List.all_eq_true.1 sb_all x (List.mem_range.2 h)
 simpa using this
theorem back_sub (l:List UInt8):backL (subL l) = l:=by
 unfold backL subL
 rw [List.map_map]
 conv => rhs; rw [<- List.map_id l]
 apply List.map_congr_left
 intro c _
 show UInt8.ofNat (Sbox.back (UInt8.ofNat (Sbox.sub c.toNat)).toNat) = c
 rw [UInt8.toNat_ofNat',Nat.mod_eq_of_lt (show Sbox.sub c.toNat < 2 ^ 8 from Sbox.sub_lt _),(sb c.toNat c.toNat_lt).1]
 simp
theorem sub_back (l:List UInt8):subL (backL l) = l:=by
 unfold backL subL
 rw [List.map_map]
 conv => rhs; rw [<- List.map_id l]
 apply List.map_congr_left
 intro c _
 show UInt8.ofNat (Sbox.sub (UInt8.ofNat (Sbox.back c.toNat)).toNat) = c
 rw [UInt8.toNat_ofNat',Nat.mod_eq_of_lt (show Sbox.back c.toNat < 2 ^ 8 from Sbox.back_lt _),(sb c.toNat c.toNat_lt).2]
 simp
def g4 (f g:Nat -> Nat) (a x:Nat):Nat:=((Gf.mul (Gf.mul x (f a)) (g 0) ^^^ Gf.mul (Gf.mul x (f ((a + 3) % 4))) (g 1)) ^^^ Gf.mul (Gf.mul x (f ((a + 2) % 4))) (g 2)) ^^^ Gf.mul (Gf.mul x (f ((a + 1) % 4))) (g 3)
theorem g4_all:(List.range 256).all (fun x => g4 mixF unmixF 0 x == x && g4 mixF unmixF 1 x == 0 && g4 mixF unmixF 2 x == 0 && g4 mixF unmixF 3 x == 0 && (g4 unmixF mixF 0 x == x && g4 unmixF mixF 1 x == 0 && g4 unmixF mixF 2 x == 0 && g4 unmixF mixF 3 x == 0)) = true:=by decide +kernel
structure Inv (f g:Nat -> Nat):Prop where
 h0:∀ x,x < 256 -> g4 f g 0 x = x
 h1:∀ x,x < 256 -> g4 f g 1 x = 0
 h2:∀ x,x < 256 -> g4 f g 2 x = 0
 h3:∀ x,x < 256 -> g4 f g 3 x = 0
theorem inv_mu:Inv mixF unmixF:=by
 have h:=fun x (hx:x < 256) => List.all_eq_true.1 g4_all x (List.mem_range.2 hx)
 simp only [Bool.and_eq_true,beq_iff_eq] at h
 exact ⟨fun x hx => (h x hx).1.1.1.1,fun x hx => (h x hx).1.1.1.2,fun x hx => (h x hx).1.1.2,fun x hx => (h x hx).1.2⟩
theorem inv_um:Inv unmixF mixF:=by
 have h:=fun x (hx:x < 256) => List.all_eq_true.1 g4_all x (List.mem_range.2 hx)
 simp only [Bool.and_eq_true,beq_iff_eq] at h
 exact ⟨fun x hx => (h x hx).2.1.1.1,fun x hx => (h x hx).2.1.1.2,fun x hx => (h x hx).2.1.2,fun x hx => (h x hx).2.2⟩
def sum4 (f:Nat -> Nat) (a b c d:Nat):Nat:=((Gf.mul a (f 0) ^^^ Gf.mul b (f 1)) ^^^ Gf.mul c (f 2)) ^^^ Gf.mul d (f 3)
theorem mixP4 (f:Nat -> Nat) (l:List UInt8) (i:Nat):mixP f l i 4 = sum4 f (ent l (4 * (i / 4) + (i % 4 + 0) % 4)) (ent l (4 * (i / 4) + (i % 4 + 1) % 4)) (ent l (4 * (i / 4) + (i % 4 + 2) % 4)) (ent l (4 * (i / 4) + (i % 4 + 3) % 4)):=by
 simp only [mixP,Nat.zero_xor]; rfl
theorem xor16 (a0 a1 a2 a3 b0 b1 b2 b3 c0 c1 c2 c3 d0 d1 d2 d3:Nat) :
   ((((a0 ^^^ a1) ^^^ a2) ^^^ a3) ^^^ (((b0 ^^^ b1) ^^^ b2) ^^^ b3)) ^^^ (((c0 ^^^ c1) ^^^ c2) ^^^ c3) ^^^ (((d0 ^^^ d1) ^^^ d2) ^^^ d3) =
   ((((a0 ^^^ b3) ^^^ c2) ^^^ d1) ^^^ (((a1 ^^^ b0) ^^^ c3) ^^^ d2)) ^^^ (((a2 ^^^ b1) ^^^ c0) ^^^ d3) ^^^ (((a3 ^^^ b2) ^^^ c1) ^^^ d0):=by
 ac_rfl
theorem sum4_inv (f g:Nat -> Nat) (h:Inv f g) (a b c d:Nat) (ha:a < 256) (hb:b < 256) (hc:c < 256) (hd:d < 256) :
   sum4 g (sum4 f a b c d) (sum4 f b c d a) (sum4 f c d a b) (sum4 f d a b c) = a:=by
 have e0:=h.h0 a ha
 have e1:=h.h1 b hb
 have e2:=h.h2 c hc
 have e3:=h.h3 d hd
 unfold g4 at e0 e1 e2 e3
 simp only [Nat.reduceAdd,Nat.reduceMod,Nat.zero_add] at e0 e1 e2 e3
 unfold sum4
 simp only [Gf.mul_xl]
 rw [xor16,e0,e1,e2,e3]
 simp
theorem mix_inv (f g:Nat -> Nat) (h:Inv f g) (l:List UInt8) (hl:l.length = 16):mixL g (mixL f l) = l:=by
 refine ext16 _ _ (mixL_len _ _) hl fun i hi => ?_
 rw [mix_ent _ _ _ hi,mixP4,mix_ent _ _ _ (by omega),mix_ent _ _ _ (by omega),mix_ent _ _ _ (by omega),mix_ent _ _ _ (by omega)]
 simp only [mixP4]
 have hr:i % 4 = 0 ∨ i % 4 = 1 ∨ i % 4 = 2 ∨ i % 4 = 3:=by omega
 obtain ⟨c,hc⟩:∃ c,c = i / 4:=⟨_,rfl⟩
 rw [<- hc]
 have q0:∀ k,k < 4 -> (4 * c + k) / 4 = c:=fun k hk => by omega
 have q1:∀ k,k < 4 -> (4 * c + k) % 4 = k:=fun k hk => by omega
 have hi2:i = 4 * c + i % 4:=by omega
 rcases hr with hr | hr | hr | hr <;> rw [hr] at hi2 ⊢ <;> simp only [Nat.reduceAdd,Nat.reduceMod,Nat.zero_add,Nat.add_zero,q0 1 (by decide),q0 2 (by decide),q0 3 (by decide),q1 1 (by decide),q1 2 (by decide),q1 3 (by decide)] <;>
   (have z:=fun k => ent_lt l k) <;> (rw [hi2]; first | exact sum4_inv f g h _ _ _ _ (z _) (z _) (z _) (z _) | (simp only [Nat.add_zero]; exact sum4_inv f g h _ _ _ _ (z _) (z _) (z _) (z _)) | (simpa using sum4_inv f g h _ _ _ _ (z _) (z _) (z _) (z _)))
theorem undo_do (last:Bool) (l k:List UInt8) (hl:l.length = 16):undoL last (doL last l k) k = l:=by
 have hs:(subL l).length = 16:=by rw [subL_len,hl]
 unfold undoL doL
 cases last with
 | true => simp only [if_true]; rw [xor_xor _ _ (shiftL_len _),unshift_shift _ hs,back_sub]
 | false => simp only [Bool.false_eq_true,if_false]; rw [xor_xor _ _ (mixL_len _ _),mix_inv _ _ inv_mu _ (shiftL_len _),unshift_shift _ hs,back_sub]
theorem do_undo (last:Bool) (l k:List UInt8) (hl:l.length = 16):doL last (undoL last l k) k = l:=by
 unfold undoL doL
 cases last with
 | true => simp only [if_true]; rw [sub_back,shift_unshift _ (xorL_len _ _),xor_xor _ _ hl]
 | false => simp only [Bool.false_eq_true,if_false]; rw [sub_back,shift_unshift _ (mixL_len _ _),mix_inv _ _ inv_um _ (xorL_len _ _),xor_xor _ _ hl]
theorem doL_len (last:Bool) (l k:List UInt8):(doL last l k).length = 16:=xorL_len _ _
theorem undoL_len (last:Bool) (l k:List UInt8):(undoL last l k).length = 16:=by
 unfold undoL; rw [backL_len]; cases last <;> exact unshiftL_len _
end Rnd
namespace Aes
open Rnd
def tabN (p:Nat):Nat:=if p < 256 then Sbox.sub p else if p < 512 then Sbox.back (p - 256) else if p < 768 then Gf.xt (p - 512) else if p < 1024 then Gf.mul (p - 768) 9 else if p < 1280 then Gf.mul (p - 1024) 11 else if p < 1536 then Gf.mul (p - 1280) 13 else Gf.mul (p - 1536) 14
def tabV (p:Nat):Value:=.int .u8 ((tabN p:Nat):Int)
def tbC:Array Value:=((List.range 1792).map tabV).toArray
def tabK (k p:Nat):Value:=if p < 256 then tabV p else if p < 512 then (if Sbox.back (p - 256) < k then tabV p else .int .u8 0) else if p % 256 < k then tabV p else .int .u8 0
theorem tabK_end (p:Nat):tabK 256 p = tabV p:=by
 unfold tabK
 have h:=Sbox.back_lt (p - 256)
 have h2:p % 256 < 256:=Nat.mod_lt _ (by decide)
 rw [if_pos h,if_pos h2]
 split
 · rfl
 · split <;> rfl
theorem tab_all:(List.range 256).all (fun x => (Gf.xt (Gf.xt (Gf.xt x)) ^^^ x == Gf.mul x 9) && ((Gf.xt (Gf.xt (Gf.xt x)) ^^^ Gf.xt x) ^^^ x == Gf.mul x 11) && ((Gf.xt (Gf.xt (Gf.xt x)) ^^^ Gf.xt (Gf.xt x)) ^^^ x == Gf.mul x 13) && ((Gf.xt (Gf.xt (Gf.xt x)) ^^^ Gf.xt (Gf.xt x)) ^^^ Gf.xt x == Gf.mul x 14)) = true:=by decide +kernel
theorem tab_mul (x:Nat) (h:x < 256):Gf.xt (Gf.xt (Gf.xt x)) ^^^ x = Gf.mul x 9 /\ (Gf.xt (Gf.xt (Gf.xt x)) ^^^ Gf.xt x) ^^^ x = Gf.mul x 11 /\ (Gf.xt (Gf.xt (Gf.xt x)) ^^^ Gf.xt (Gf.xt x)) ^^^ x = Gf.mul x 13 /\ (Gf.xt (Gf.xt (Gf.xt x)) ^^^ Gf.xt (Gf.xt x)) ^^^ Gf.xt x = Gf.mul x 14:=by
 have h1:=tab_all
 rw [List.all_eq_true] at h1
 have h2:=h1 x (List.mem_range.2 h)
 simp only [Bool.and_eq_true,beq_iff_eq] at h2
 exact ⟨h2.1.1.1,h2.1.1.2,h2.1.2,h2.2⟩
theorem tbC_size:tbC.size = 1792:=by simp [tbC]
theorem tbC_at (j:Nat) (h:j < 1792):tbC[j]? = some (tabV j):=by simp [tbC,h]
theorem tbC_one:tbC.all (·.oneCell') = true:=by
 rw [Array.all_eq_true]
 intro i hi
 have h:=tbC_at i (by rw [<- tbC_size]; exact hi)
 rw [Array.getElem?_eq_getElem hi] at h
 rw [Option.some.inj h]; rfl
theorem row_tb {w:World} {b t:Nat} {f:Nat -> Value} (h:w.rowIs b t 1792 f) (hf:∀ j,j < 1792 -> f j = tabV j):w.heap[b]? = some (.cells tbC t (0,0)):=by
 obtain ⟨c,hg,hn,hc⟩:=h
 have he:c = tbC:=by
   apply Array.ext (by rw [hn,tbC_size])
   intro i h1 h2
   have g1:=hc i (by omega)
   have g2:=tbC_at i (by omega)
   rw [hf i (by omega),Array.getElem?_eq_getElem h1] at g1
   rw [Array.getElem?_eq_getElem h2] at g2
   exact (Option.some.inj g1).trans (Option.some.inj g2).symm
 rw [hg,he]
theorem i1792:(Tryz.prog.info? 165).map (·.size) = some 1792:=by kernel_rfl
def zt:Array Value:=Array.replicate 1792 (.int .u8 0)
theorem zero57 (w:World):(zeroValue 165).run Tryz.prog w = .ok (.agg zt) w:=by kernel_rfl
theorem zt_ne:(zt = #[]) = False:=by simp [zt]
theorem zt_size:zt.size = 1792:=by simp [zt]
theorem zt_at (i:Nat) (h:i < 1792):zt[i]? = some (.int .u8 0):=by simp [zt,h]
theorem slice57 (b:Nat) (w:World):(Instr.sliceAt 163 (.pointer (some ⟨b,0,none⟩)) none none none).run Tryz.prog w = .ok (.slice (some ⟨b,0,none⟩) 256 256) w:=by kernel_rfl
theorem two_r (a:Nat) (ha:a < 256):Ret 219 #[.int .u8 (a:Int)] (.int .u8 ((Gf.xt a:Nat):Int)):=fun w => by
 have h:=Field.twice_any (a:Int) w (by omega) (by omega)
 simpa using h
theorem tab_step (k sk x2 v9 v11 v13 v14:Nat) (hk:k < 256) (hsk:sk = Sbox.sub k) (h2:x2 = Gf.xt k) (h9:v9 = Gf.mul k 9) (h11:v11 = Gf.mul k 11) (h13:v13 = Gf.mul k 13) (h14:v14 = Gf.mul k 14) (p:Nat) (hp:p < 1792) :
   (if p = 1536 + k then Value.int .u8 (v14:Int) else if p = 1280 + k then Value.int .u8 (v13:Int) else if p = 1024 + k then Value.int .u8 (v11:Int) else if p = 768 + k then Value.int .u8 (v9:Int) else if p = 512 + k then Value.int .u8 (x2:Int) else if p = 256 + sk then Value.int .u8 (k:Int) else tabK k p) = tabK (k + 1) p:=by
 have hs:=Sbox.sub_lt k
 rw [<- hsk] at hs
 have hb:=(sb k hk).1
 rw [<- hsk] at hb
 by_cases c0:p < 256
 · rw [if_neg (by omega),if_neg (by omega),if_neg (by omega),if_neg (by omega),if_neg (by omega),if_neg (by omega)]
   unfold tabK; rw [if_pos c0,if_pos c0]
 by_cases c1:p < 512
 · rw [if_neg (by omega),if_neg (by omega),if_neg (by omega),if_neg (by omega),if_neg (by omega)]
   by_cases hq:p = 256 + sk
   · rw [if_pos hq]
     have e:p - 256 = sk:=by omega
     unfold tabK tabV tabN
     rw [if_neg c0,if_pos c1,if_neg c0,if_pos c1,e,hb,if_pos (Nat.lt_succ_self k)]
   · rw [if_neg hq]
     unfold tabK
     rw [if_neg c0,if_neg c0,if_pos c1,if_pos c1]
     have hj:=(sb (p - 256) (by omega)).2
     have hne:Sbox.back (p - 256) ≠ k:=fun h => hq (by rw [h,<- hsk] at hj; omega)
     by_cases hl:Sbox.back (p - 256) < k
     · rw [if_pos hl,if_pos (by omega)]
     · rw [if_neg hl,if_neg (by omega)]
 have hm:p % 256 < k + 1 ↔ p % 256 < k ∨ p % 256 = k:=by omega
 have ht:tabK (k + 1) p = if p % 256 = k then tabV p else tabK k p:=by
   unfold tabK
   rw [if_neg c0,if_neg c1,if_neg c0,if_neg c1]
   by_cases hl:p % 256 = k
   · rw [if_pos (by omega),if_pos hl]
   · rw [if_neg hl]
     by_cases h3:p % 256 < k
     · rw [if_pos (by omega),if_pos h3]
     · rw [if_neg (by omega),if_neg h3]
 rw [ht]
 by_cases hl:p % 256 = k
 · rw [if_pos hl]
   unfold tabV tabN
   rw [if_neg c0,if_neg c1]
   by_cases c2:p < 768
   · rw [if_neg (by omega),if_neg (by omega),if_neg (by omega),if_neg (by omega),if_pos (by omega),if_pos c2,h2,show p - 512 = k from by omega]
   by_cases c3:p < 1024
   · rw [if_neg (by omega),if_neg (by omega),if_neg (by omega),if_pos (by omega),if_neg c2,if_pos c3,h9,show p - 768 = k from by omega]
   by_cases c4:p < 1280
   · rw [if_neg (by omega),if_neg (by omega),if_pos (by omega),if_neg c2,if_neg c3,if_pos c4,h11,show p - 1024 = k from by omega]
   by_cases c5:p < 1536
   · rw [if_neg (by omega),if_pos (by omega),if_neg c2,if_neg c3,if_neg c4,if_pos c5,h13,show p - 1280 = k from by omega]
   · rw [if_pos (by omega),if_neg c2,if_neg c3,if_neg c4,if_neg c5,h14,show p - 1536 = k from by omega]
 · rw [if_neg hl,if_neg (by omega),if_neg (by omega),if_neg (by omega),if_neg (by omega),if_neg (by omega),if_neg (by omega)]
theorem tab0 (S:ByteArray) (hS:S = strOfNums ((List.range 256).map fun j => ((Sbox.sub j:Nat):Int))) (j:Nat) (hj:j < 1792):putAt (fun _ => .int .u8 0) 0 S.data.toList j = tabK 0 j:=by
 have hl:S.data.toList.length = 256:=by rw [hS]; simp [strOfNums]
 unfold putAt tabK
 by_cases h:j < 256
 · rw [if_pos (by omega),if_pos h,Nat.sub_zero]
   have hv:(S.data.toList.getD j 0).toNat = Sbox.sub j:=by
     rw [hS]
     simp [strOfNums,List.getD,h]
     have:=Sbox.sub_lt j
     omega
   rw [hv]; unfold tabV tabN; rw [if_pos h]
 · rw [if_neg (by omega),if_neg h]
   split
   · rw [if_neg (by omega)]
   · rw [if_neg (by omega)]
end Aes
namespace Aes
open Rnd
theorem cell_some {w:World} {b t n:Nat} {f:Nat -> Value} (h:w.rowIs b t n f) (i:Nat) (hi:i < n):∃ o,w.cell? ⟨b,i,none⟩ = some o:=⟨_,h.cell hi⟩
attribute [local irreducible] tabK tabN
set_option maxHeartbeats 2000000 in
theorem tables_mak:Mak 186 #[] (.agg tbC):=by
 intro w
 obtain ⟨C,hC⟩:∃ C,C = tbC:=⟨_,rfl⟩
 rw [<- hC]
 have HC:=lH hC
 clear hC
 obtain ⟨Z,hZ⟩:∃ Z,Z = zt:=⟨_,rfl⟩
 have hz:∀ w,(zeroValue 165).run Tryz.prog w = .ok (.agg Z) w:=by rw [hZ]; exact zero57
 have hne:(Z = #[]) = False:=by rw [hZ]; exact zt_ne
 have hZs:Z.size = 1792:=by rw [hZ]; exact zt_size
 have hZa:∀ i,i < 1792 -> Z[i]? = some (.int .u8 0):=by rw [hZ]; exact zt_at
 have HZ:=lH hZ
 clear hZ
 go_enter Tryz.func186,Tryz.ntmps186
 go_wp2_with fail
 have hsl:∀ w',(Instr.sliceAt 163 (.pointer (some ⟨w.heap.size + 1,0,none⟩)) none none none).run Tryz.prog w' = .ok (.slice (some ⟨w.heap.size + 1,0,none⟩) 256 256) w':=slice57 _
 have hr0:((w.alloc (.cells Z 165)).alloc (.cells Z 165)).rowIs (w.heap.size + 1) 165 1792 (fun _ => .int .u8 0):=by
   have h:=World.rowIs_alloc (w.alloc (.cells Z 165)) Z 165 (fun _ => .int .u8 0) (fun i hi => hZa i (by omega))
   rw [hZs] at h
   simp only [World.size_alloc'] at h
   exact h
 have hz0:((w.alloc (.cells Z 165)).alloc (.cells Z 165)).heap[w.heap.size]? = some (.cells Z 165 (0,0)):=(Go.heap_alloc_old _ _ (by simp)).trans (Go.heap_alloc_new _ _)
 have hs0:Since w ((w.alloc (.cells Z 165)).alloc (.cells Z 165)):=((Since.refl w).alloc _).alloc _
 obtain ⟨S,hS⟩:∃ S,S = strOfNums ((List.range 256).map fun j => ((Sbox.sub j:Nat):Int)):=⟨_,rfl⟩
 have hSs:S.size = 256:=by rw [hS]; simp [strOfNums,ByteArray.size]
 have c1:∀ w',Calls Tryz.prog 218 #[] w' fun e w2 => e = .returned (.string S) /\ Since w' w2:=by rw [hS]; exact Sbox.table_any
 have HS:=lH hS
 clear hS hne hz
 have Hr0:=lH hr0
 clear hr0
 have Hz0:=lH hz0
 clear hz0
 have Hs0:=lH hs0
 clear hs0
 obtain ⟨W,hW⟩:∃ W,W = (w.alloc (.cells Z 165)).alloc (.cells Z 165):=⟨_,rfl⟩
 rw [<- hW] at Hr0 Hz0 Hs0 ⊢
 clear hW
 go_region_law (first
   | (go_simp; go_at_call 218; refine (c1 _).mono ?_; rintro e w2 ⟨rfl,h2⟩; obtain ⟨w3,hrun,hrow,hbel⟩:=run_copy_str w2 S (w.heap.size + 1) 165 0 1792 256 256 3 (fun _ => .int .u8 0) (some ⟨w.heap.size + 1,0,none⟩) (Hr0.out.of_block (h2.block _ Hr0.out.lt)) (fun _ => rfl) (by omega) (by omega)))
 have HR3:=lH (hrow.congr (tab0 S HS.out))
 have HS3:Hid (Since w w3):=lH (hbel _ _ (Since.step (Hs0.out.drew) h2) (by omega))
 have HZ3:Hid (∃ z,z.size = 1792 /\ w3.heap[w.heap.size]? = some (.cells z 165 (0,0))):=lH ⟨Z,hZs,((hbel (w.heap.size + 1) w2 (Below.refl _ _) (Nat.le_refl _)).block _ (by omega)).trans ((h2.block _ (lt_of_heap Hz0.out)).trans Hz0.out)⟩
 clear hrow hbel hrun h2 c1
 go_wp2_with fail
 go_loopw [11] (fun i wr => ∃ k:Nat,k <= 256 /\ i = .int .i64 (k:Int) /\ Hid (wr.rowIs (w.heap.size + 1) 165 1792 (tabK k)) /\ Hid (∃ z,z.size = 1792 /\ wr.heap[w.heap.size]? = some (.cells z 165 (0,0))) /\ Hid (Since w wr)) (fun i _ => 256 - (intOf i).toNat)
 case atStart => exact ⟨0,by omega,rfl,HR3,HZ3,HS3⟩
 case round =>
   clear HR3 HZ3 HS3 hZa hZs hsl hSs
   obtain ⟨k,hk,rfl,HR,HZ,HS⟩:=hrel
   by_cases hlt:k < 256
   · have hdb:decide ((k:Int) < 256) = true:=decide_eq_true (by omega)
     have e7:(k:Int) % 256 = (k:Int):=by omega
     have e8:IntKind.u8.wrap (k:Int) = (k:Int):=IntWalk.u8_in _ (by omega)
     obtain ⟨x2,hx2⟩:∃ x,x = Gf.xt k:=⟨_,rfl⟩
     have l2:x2 < 256:=by rw [hx2]; exact Gf.xt_lt _ hlt
     obtain ⟨x4,hx4⟩:∃ x,x = Gf.xt x2:=⟨_,rfl⟩
     have l4:x4 < 256:=by rw [hx4]; exact Gf.xt_lt _ l2
     obtain ⟨x8,hx8⟩:∃ x,x = Gf.xt x4:=⟨_,rfl⟩
     have l8:x8 < 256:=by rw [hx8]; exact Gf.xt_lt _ l4
     have c1:=two_r k hlt
     have c2:=two_r x2 l2
     have c3:=two_r x4 l4
     rw [<- hx2] at c1
     rw [<- hx4] at c2
     rw [<- hx8] at c3
     have hm:=tab_mul k hlt
     rw [<- hx2,<- hx4,<- hx8] at hm
     have hv9:=u8_xor_nat x8 k l8 hlt
     have hva:=u8_xor_nat x8 x2 l8 l2
     have hvb:=u8_xor_nat (x8 ^^^ x2) k (Nat.xor_lt_two_pow (n:=8) l8 l2) hlt
     have hvc:=u8_xor_nat x8 x4 l8 l4
     have hvd:=u8_xor_nat (x8 ^^^ x4) k (Nat.xor_lt_two_pow (n:=8) l8 l4) hlt
     have hve:=u8_xor_nat (x8 ^^^ x4) x2 (Nat.xor_lt_two_pow (n:=8) l8 l4) l2
     obtain ⟨ua,hua⟩:∃ x,x = x8 ^^^ x2:=⟨_,rfl⟩
     obtain ⟨uc,huc⟩:∃ x,x = x8 ^^^ x4:=⟨_,rfl⟩
     rw [<- hua,<- huc] at hm
     rw [<- hua] at hva hvb
     rw [<- huc] at hvc hvd hve
     rw [hm.1] at hv9
     rw [hm.2.1] at hvb
     rw [hm.2.2.1] at hvd
     rw [hm.2.2.2] at hve
     obtain ⟨v9,h9⟩:∃ x,x = Gf.mul k 9:=⟨_,rfl⟩
     obtain ⟨v11,h11⟩:∃ x,x = Gf.mul k 11:=⟨_,rfl⟩
     obtain ⟨v13,h13⟩:∃ x,x = Gf.mul k 13:=⟨_,rfl⟩
     obtain ⟨v14,h14⟩:∃ x,x = Gf.mul k 14:=⟨_,rfl⟩
     rw [<- h9] at hv9
     rw [<- h11] at hvb
     rw [<- h13] at hvd
     rw [<- h14] at hve
     clear hm hua huc
     have hsub:=Sbox.sub_lt k
     have hbs:=(sb k hlt).1
     obtain ⟨sk,hsk⟩:∃ x,x = Sbox.sub k:=⟨_,rfl⟩
     have hc0:=HR.out.cell (i:=k) (by omega)
     unfold tabK at hc0
     rw [if_pos hlt] at hc0
     unfold tabV tabN at hc0
     rw [if_pos hlt,<- hsk] at hc0
     rw [<- hsk] at hsub hbs
     have i1:(0:Int) <= (k:Int):=by omega
     have i2:(k:Int) < 256:=by omega
     have i3:(0:Int) <= (sk:Int):=by omega
     have i4:(sk:Int) < 256:=by omega
     have Hx2:=lH hx2
     clear hx2
     have Hx4:=lH hx4
     clear hx4
     have Hx8:=lH hx8
     clear hx8
     have Hbs:=lH hbs
     clear hbs
     have Hsk:=lH hsk
     clear hsk
     have H9:=lH h9
     clear h9
     have H11:=lH h11
     clear h11
     have H13:=lH h13
     clear h13
     have H14:=lH h14
     clear h14
     go_wp2_with fail
     refine (c1).calls ?_
     go_wp2_with fail
     refine (c2).calls ?_
     go_wp2_with fail
     refine (c3).calls ?_
     have R1:=lH (HR.out.set (256 + sk) (.int .u8 (k:Int)))
     have R2:=lH (R1.out.set (512 + k) (.int .u8 (x2:Int)))
     have R3:=lH (R2.out.set (768 + k) (.int .u8 (v9:Int)))
     have R4:=lH (R3.out.set (1024 + k) (.int .u8 (v11:Int)))
     have R5:=lH (R4.out.set (1280 + k) (.int .u8 (v13:Int)))
     have R6:=lH (R5.out.set (1536 + k) (.int .u8 (v14:Int)))
     obtain ⟨o11,hc11⟩:=cell_some HR.out (256 + sk) (by omega)
     have hf11:=HR.out.frozen (256 + sk)
     obtain ⟨o12,hc12⟩:=cell_some R1.out (512 + k) (by omega)
     have hf12:=R1.out.frozen (512 + k)
     obtain ⟨o13,hc13⟩:=cell_some R2.out (768 + k) (by omega)
     have hf13:=R2.out.frozen (768 + k)
     obtain ⟨o14,hc14⟩:=cell_some R3.out (1024 + k) (by omega)
     have hf14:=R3.out.frozen (1024 + k)
     obtain ⟨o15,hc15⟩:=cell_some R4.out (1280 + k) (by omega)
     have hf15:=R4.out.frozen (1280 + k)
     obtain ⟨o16,hc16⟩:=cell_some R5.out (1536 + k) (by omega)
     have hf16:=R5.out.frozen (1536 + k)
     go_wp2_with fail
     go_roundw
     case rel =>
       have hend:=R6.out.congr (g:=tabK (k + 1)) (fun p hp => tab_step k sk x2 v9 v11 v13 v14 hlt Hsk.out Hx2.out H9.out H11.out H13.out H14.out p hp)
       refine ⟨k + 1,by omega,by go_num,lH hend,lH ?_,lH ?_⟩
       · obtain ⟨z,hz,hzb⟩:=HZ.out
         exact ⟨z,hz,(heap_setCell_other _ _ _ _ (by simp)).trans ((heap_setCell_other _ _ _ _ (by simp)).trans ((heap_setCell_other _ _ _ _ (by simp)).trans ((heap_setCell_other _ _ _ _ (by simp)).trans ((heap_setCell_other _ _ _ _ (by simp)).trans ((heap_setCell_other _ _ _ _ (by simp)).trans hzb)))))⟩
       · exact Below.setCell (Below.setCell (Below.setCell (Below.setCell (Below.setCell (Below.setCell HS.out (p:=⟨w.heap.size + 1,_,none⟩) (Nat.le_succ _) _) (p:=⟨w.heap.size + 1,_,none⟩) (Nat.le_succ _) _) (p:=⟨w.heap.size + 1,_,none⟩) (Nat.le_succ _) _) (p:=⟨w.heap.size + 1,_,none⟩) (Nat.le_succ _) _) (p:=⟨w.heap.size + 1,_,none⟩) (Nat.le_succ _) _) (p:=⟨w.heap.size + 1,_,none⟩) (Nat.le_succ _) _
     case measure => simp [intOf]; omega
   · obtain rfl:k = 256:=by omega
     obtain ⟨z,hz,hzb⟩:=HZ.out
     have hb:=row_tb HR.out (fun j _ => tabK_end j)
     have hCs:C.size = 1792:=by rw [HC.out]; exact tbC_size
     have hC1:C.all (·.oneCell') = true:=by rw [HC.out]; exact tbC_one
     rw [<- HC.out] at hb
     have iC:(Tryz.prog.info? 165).map (·.size) = some C.size:=by rw [hCs]; exact i1792
     have Hz:=lH hz
     clear hz
     have Hzb:=lH hzb
     clear hzb
     have Hb:=lH hb
     clear hb
     have HCs:=lH hCs
     clear hCs
     have HC1:=lH hC1
     clear hC1
     have H_iC:=lH iC
     clear iC
     go_wp2_with (first | (refine wpList_load_row rfl 165 _ rfl (w.heap.size + 1) (by rfl) _ _ _ _ Hb.out Tryz.underlying165 rfl H_iC.out ?_) | (refine wpList_store_row rfl 165 _ _ rfl w.heap.size C (by rfl) (by rfl) _ _ Hzb.out H_iC.out (by rw [HCs.out]; exact Hz.out) HC1.out ?_))
     exact bodyPost_ret (v:=.agg C) (results_cell_row Tryz.results186 _ _ _ _ _ _ _ rfl (setRow_heap _ _ _ _ _ _ Hzb.out) Tryz.underlying165 rfl H_iC.out) rfl ⟨rfl,below_setRow HS.out (Nat.le_refl _) _⟩
end Aes
namespace Aes
open Rnd
def blV (l:List UInt8) (j:Nat):Value:=.int .u8 ((ent l j:Nat):Int)
def blC (l:List UInt8):Array Value:=((List.range 16).map (blV l)).toArray
theorem blC_size (l:List UInt8):(blC l).size = 16:=by simp [blC]
theorem blC_at (l:List UInt8) (j:Nat) (h:j < 16):(blC l)[j]? = some (blV l j):=by simp [blC,h]
theorem blC_one (l:List UInt8):(blC l).all (·.oneCell') = true:=by
 rw [Array.all_eq_true]
 intro i hi
 simp [blC]
 rfl
theorem row_bl {w:World} {b t:Nat} {f:Nat -> Value} {l:List UInt8} (h:w.rowIs b t 16 f) (hf:∀ j,j < 16 -> f j = blV l j):w.heap[b]? = some (.cells (blC l) t (0,0)):=by
 obtain ⟨c,hg,hn,hc⟩:=h
 rw [hg]
 congr 2
 apply Array.ext_getElem?
 intro i
 by_cases hi:i < 16
 · rw [hc i hi,hf i hi,blC_at l i hi]
 · rw [Array.getElem?_eq_none (by omega),Array.getElem?_eq_none (by rw [blC_size]; omega)]
theorem bl_row {w:World} {b t:Nat} {l:List UInt8} (h:w.heap[b]? = some (.cells (blC l) t (0,0))):w.rowIs b t 16 (blV l):=⟨blC l,h,blC_size l,fun j hj => blC_at l j hj⟩
theorem i16:(Tryz.prog.info? 159).map (·.size) = some 16:=by kernel_rfl
theorem below_all:(List.range 16).all (fun i => (List.range 4).all fun j => bits .or .i64 (bits .andNot .i64 (i:Int) 3) (bits .and .i64 ((i:Int) + (j:Int)) 3) == ((4 * (i / 4) + (i % 4 + j) % 4:Nat):Int)) = true:=by decide +kernel
theorem below_at (i j:Nat) (hi:i < 16) (hj:j < 4):bits .or .i64 (bits .andNot .i64 (i:Int) 3) (bits .and .i64 ((i:Int) + (j:Int)) 3) = ((4 * (i / 4) + (i % 4 + j) % 4:Nat):Int):=by
 have h:=below_all
 rw [List.all_eq_true] at h
 have h1:=h i (List.mem_range.2 hi)
 rw [List.all_eq_true] at h1
 have h2:=h1 j (List.mem_range.2 hj)
 rwa [beq_iff_eq] at h2
theorem below_ret (i j q:Nat) (hi:i < 16) (hj:j < 4) (hq:q = 4 * (i / 4) + (i % 4 + j) % 4):Ret 192 #[.int .i64 (i:Int),.int .i64 (j:Int)] (.int .i64 (q:Int)):=by
 intro w
 have h1:=below_at i j hi hj
 rw [<- hq] at h1
 have e:IntKind.i64.wrap ((i:Int) + (j:Int)) = (i:Int) + (j:Int):=IntWalk.i64_in _ (by omega)
 have H1:=lH h1
 clear h1
 have Hq:=lH hq
 clear hq
 go_enter Tryz.func192,Tryz.ntmps192
 go_wp2_with fail
 go_ret
 exact ⟨by rw [H1.out]; rfl,rfl⟩
set_option maxHeartbeats 2000000 in
theorem add_mak (a b:List UInt8) (C D E:Array Value) (hC:C = blC a) (hD:D = blC b) (hE:E = blC (xorL a b)):Mak 154 #[.agg C,.agg D] (.agg E):=by
 intro w
 obtain ⟨L,hL⟩:∃ L,L = xorL a b:=⟨_,rfl⟩
 rw [<- hL] at hE
 have HL:=lH hL
 have HC:=lH hC
 have HD:=lH hD
 have hEs:E.size = 16:=by rw [hE,blC_size]
 have hE1:E.all (·.oneCell') = true:=by rw [hE]; exact blC_one _
 have iE:(Tryz.prog.info? 159).map (·.size) = some E.size:=by rw [hEs]; exact i16
 have HE:=lH hE
 clear hC hD hE hL
 have HEs:=lH hEs
 clear hEs
 have HE1:=lH hE1
 clear hE1
 have H_iE:=lH iE
 clear iE
 go_enter Tryz.func154,Tryz.ntmps154
 go_wp2_with fail
 go_loopw [6] (fun i wr => ∃ n:Nat,n <= 16 /\ i = .int .i64 (n:Int) /\ Hid (wr.rowIs w.heap.size 159 16 (fun p => if p < n then blV L p else blV a p)) /\ Hid (wr.rowIs (w.heap.size + 1) 159 16 (blV b)) /\ Hid (∃ z,z.size = 16 /\ wr.heap[w.heap.size + 2]? = some (.cells z 159 (0,0))) /\ Hid (Since w wr)) (fun i _ => 16 - (intOf i).toNat)
 case atStart =>
   refine ⟨0,by omega,rfl,lH ?_,lH ?_,lH ⟨Z16,by rfl, ?_⟩,lH ((((Since.refl w).alloc _).alloc _).alloc _)⟩
   · refine World.rowIs.congr (bl_row (l:=a) ?_) fun p hp => by rw [if_neg (by omega)]
     rw [<- HC.out]
     exact ((Go.heap_alloc_old _ _ (by simp; omega)).trans (Go.heap_alloc_old _ _ (by simp))).trans (Go.heap_alloc_new _ _)
   · refine bl_row (l:=b) ?_
     rw [<- HD.out]
     refine (Go.heap_alloc_old _ _ (by simp)).trans ?_
     have h:=Go.heap_alloc_new (w.alloc (.cells C 159)) (.cells D 159)
     simp only [World.size_alloc'] at h
     exact h
   · have h:=Go.heap_alloc_new ((w.alloc (.cells C 159)).alloc (.cells D 159)) (.cells Z16 159)
     simp only [World.size_alloc'] at h
     exact h
 case round =>
   obtain ⟨n,hn,rfl,HR,HB,HZ,HS⟩:=hrel
   by_cases hlt:n < 16
   · have hdb:decide ((n:Int) < 16) = true:=decide_eq_true (by omega)
     have hca:=HR.out.cell (i:=n) hlt
     rw [if_neg (by omega)] at hca
     have hfa:=HR.out.frozen n
     have hcb:=HB.out.cell (i:=n) hlt
     have hx:=xor_ent a b n hlt
     rw [<- HL.out] at hx
     unfold blV at hca hcb
     have h1:=ent_lt a n
     have h2:=ent_lt b n
     obtain ⟨x,hxe⟩:∃ x,x = ent a n:=⟨_,rfl⟩
     obtain ⟨y,hye⟩:∃ y,y = ent b n:=⟨_,rfl⟩
     rw [<- hxe] at hca h1 hx
     rw [<- hye] at hcb h2 hx
     have i1:(0:Int) <= (n:Int):=by omega
     have i2:(n:Int) < 16:=by omega
     have hv:=u8_xor_nat x y h1 h2
     rw [<- hx] at hv
     have Hx:=lH hx
     clear hx
     have Hxe:=lH hxe
     clear hxe
     have Hye:=lH hye
     clear hye
     have H1:=lH h1
     clear h1
     have H2:=lH h2
     clear h2
     go_wp2_with fail
     refine wp_region_still_tail 8 (by kernel_rfl) (by kernel_rfl) ?_
     simp only [List.take_succ_cons,List.take_zero,List.drop_succ_cons,List.drop_zero]
     change wpStill _ _ wr.drew (fun a' => wpList _ _ _ _ a' wr.drew) _ _
     repeat (refine wpStill_step (fun K hK => ?_); go_simp; refine hK _ ?_; clear hK K)
     refine wpStill_nil ?_
     all_goals
       go_wp2_with fail
       go_roundw
       case rel =>
         refine ⟨n + 1,by omega,by go_num,lH ((HR.out.set n _).drew.congr fun p hp => ?_),lH ((HB.out.setOther (by simp) _).drew),lH ?_,lH (Since.drew (Below.setCell (p:=⟨w.heap.size,n,none⟩) HS.out (Nat.le_refl _) _))⟩
         · by_cases h:p = n
           · rw [if_pos h,if_pos (by omega),h]; rfl
           · rw [if_neg h]
             by_cases h3:p < n
             · rw [if_pos h3,if_pos (by omega)]
             · rw [if_neg h3,if_neg (by omega)]
         · obtain ⟨z,hz,hzb⟩:=HZ.out
           exact ⟨z,hz,(heap_setCell_other _ _ _ _ (by simp)).trans hzb⟩
       case measure => simp [intOf]; omega
   · obtain rfl:n = 16:=by omega
     obtain ⟨z,hz,hzb⟩:=HZ.out
     have hb:=row_bl (l:=L) HR.out (fun j hj => by rw [if_pos hj])
     rw [<- HE.out] at hb
     go_wp2_with (first | (refine wpList_load_row rfl 159 _ rfl w.heap.size (by rfl) _ _ _ _ hb Tryz.underlying159 rfl H_iE.out ?_) | (refine wpList_store_row rfl 159 _ _ rfl (w.heap.size + 2) E (by rfl) (by rfl) _ _ hzb H_iE.out (by rw [HEs.out]; exact hz) HE1.out ?_))
     exact bodyPost_ret (v:=.agg E) (results_cell_row Tryz.results154 _ _ _ _ _ _ _ rfl (setRow_heap _ _ _ _ _ _ hzb) Tryz.underlying159 rfl H_iE.out) rfl ⟨rfl,below_setRow HS.out (Nat.le_add_right _ _) _⟩
end Aes
namespace Aes
open Rnd
def TB (w:World) (c:Nat):Prop:=c < w.heap.size /\ ∀ p,p < 1792 -> w.cell? ⟨c,p,none⟩ = some (tabV p)
theorem TB.since {w w':World} {c:Nat} (h:TB w c) (hs:Since w w'):TB w' c:=⟨Nat.lt_of_lt_of_le h.1 (Below.size hs),fun p hp => (hs.below.cell (p:=⟨c,p,none⟩) h.1).trans (h.2 p hp)⟩
theorem TB.at {w:World} {c:Nat} (h:TB w c) (k x:Nat) (hx:x < 256) (hk:k < 7):w.cell? ⟨c,256 * k + x,none⟩ = some (.int .u8 ((tabN (256 * k + x):Nat):Int)):=h.2 _ (by omega)
theorem tab_0 (x:Nat) (h:x < 256):tabN x = Sbox.sub x:=by unfold tabN; rw [if_pos h]
theorem tab_1 (x:Nat) (h:x < 256):tabN (256 + x) = Sbox.back x:=by unfold tabN; rw [if_neg (by omega),if_pos (by omega),Nat.add_sub_cancel_left]
theorem tab_2 (x:Nat) (h:x < 256):tabN (512 + x) = Gf.xt x:=by unfold tabN; rw [if_neg (by omega),if_neg (by omega),if_pos (by omega),Nat.add_sub_cancel_left]
theorem tab_3 (x:Nat) (h:x < 256):tabN (768 + x) = Gf.mul x 9:=by unfold tabN; rw [if_neg (by omega),if_neg (by omega),if_neg (by omega),if_pos (by omega),Nat.add_sub_cancel_left]
theorem tab_4 (x:Nat) (h:x < 256):tabN (1024 + x) = Gf.mul x 11:=by unfold tabN; rw [if_neg (by omega),if_neg (by omega),if_neg (by omega),if_neg (by omega),if_pos (by omega),Nat.add_sub_cancel_left]
theorem tab_5 (x:Nat) (h:x < 256):tabN (1280 + x) = Gf.mul x 13:=by unfold tabN; rw [if_neg (by omega),if_neg (by omega),if_neg (by omega),if_neg (by omega),if_neg (by omega),if_pos (by omega),Nat.add_sub_cancel_left]
theorem tab_6 (x:Nat) (h:x < 256):tabN (1536 + x) = Gf.mul x 14:=by unfold tabN; rw [if_neg (by omega),if_neg (by omega),if_neg (by omega),if_neg (by omega),if_neg (by omega),if_neg (by omega),Nat.add_sub_cancel_left]
theorem sub_ent (l:List UInt8) (i:Nat) (hi:i < l.length):ent (subL l) i = Sbox.sub (ent l i):=by
 unfold ent subL
 simp [List.getD,hi]
 have:=Sbox.sub_lt (l[i].toNat)
 omega
def ssL (l:List UInt8):List UInt8:=shiftL (subL l)
theorem ss_ent (l:List UInt8) (hl:l.length = 16) (i:Nat) (hi:i < 16):ent (ssL l) i = Sbox.sub (ent l (5 * i % 16)):=by
 unfold ssL
 rw [shift_ent _ _ hi,sub_ent _ _ (by omega)]
 congr 2
 omega
theorem three_all:(List.range 256).all (fun x => (Gf.xt x ^^^ x == Gf.mul x 3) && (Gf.mul x 1 == x) && (Gf.xt x == Gf.mul x 2)) = true:=by decide +kernel
theorem three (x:Nat) (h:x < 256):Gf.xt x ^^^ x = Gf.mul x 3 /\ Gf.mul x 1 = x /\ Gf.xt x = Gf.mul x 2:=by
 have h1:=three_all
 rw [List.all_eq_true] at h1
 have h2:=h1 x (List.mem_range.2 h)
 simp only [Bool.and_eq_true,beq_iff_eq] at h2
 exact ⟨h2.1.1,h2.1.2,h2.2⟩
theorem mix_sum (A:List UInt8) (i:Nat):mixP mixF A i 4 = ((Gf.xt (ent A (4 * (i / 4) + (i % 4 + 0) % 4) ^^^ ent A (4 * (i / 4) + (i % 4 + 1) % 4)) ^^^ ent A (4 * (i / 4) + (i % 4 + 1) % 4)) ^^^ ent A (4 * (i / 4) + (i % 4 + 2) % 4)) ^^^ ent A (4 * (i / 4) + (i % 4 + 3) % 4):=by
 rw [mixP4]
 unfold sum4
 generalize ha:ent A (4 * (i / 4) + (i % 4 + 0) % 4) = a
 generalize hb:ent A (4 * (i / 4) + (i % 4 + 1) % 4) = b
 generalize hc:ent A (4 * (i / 4) + (i % 4 + 2) % 4) = c
 generalize hd:ent A (4 * (i / 4) + (i % 4 + 3) % 4) = d
 have la:a < 256:=by rw [<- ha]; exact ent_lt _ _
 have lb:b < 256:=by rw [<- hb]; exact ent_lt _ _
 have lc:c < 256:=by rw [<- hc]; exact ent_lt _ _
 have ld:d < 256:=by rw [<- hd]; exact ent_lt _ _
 show ((Gf.mul a 2 ^^^ Gf.mul b 3) ^^^ Gf.mul c 1) ^^^ Gf.mul d 1 = _
 rw [<- (three a la).2.2,<- (three b lb).1,(three c lc).2.1,(three d ld).2.1,Gf.xt_xor]
 ac_rfl
end Aes
namespace RefRnd
open Rnd
theorem fits_ret (s:ByteArray) (b:Bool) (_hm:s.size <= 140737488355328) (hb:b = decide (s.size = 16)):Ret 222 #[.string s] (.bool b):=by
 intro w
 by_cases h:s.size = 16
 · rw [decide_eq_true h] at hb
   subst hb
   have h1:(s.size:Int) = 16:=by omega
   clear h
   go_enter Tryz.func222,Tryz.ntmps222
   go_wp2_with fail
   go_ret
   exact ⟨rfl,rfl⟩
 · rw [decide_eq_false h] at hb
   subst hb
   have h1:((s.size:Int) == 16) = false:=by rw [beq_eq_false_iff_ne]; omega
   clear h
   go_enter Tryz.func222,Tryz.ntmps222
   go_wp2_with fail
   go_ret
   exact ⟨rfl,rfl⟩
theorem take_snoc (L:List UInt8) (k:Nat) (h:k < L.length):L.take (k + 1) = L.take k ++ [UInt8.ofNat (ent L k)]:=by
 rw [List.take_succ_eq_append_getElem h]
 simp [ent,List.getD,List.getElem?_eq_getElem h]
def movL (n:Nat) (l:List UInt8):List UInt8:=pickL (fun r c => (c + n * r) % 4) l
theorem mov1 (l:List UInt8):movL 1 l = shiftL l:=by
 unfold movL shiftL; simp only [Nat.one_mul]
theorem mov3 (l:List UInt8):movL 3 l = unshiftL l:=by
 refine ext16 _ _ (pickL_len _ _) (pickL_len _ _) fun i hi => ?_
 unfold movL unshiftL
 rw [pick_ent _ _ _ hi,pick_ent _ _ _ hi]
 congr 1
 omega
set_option maxHeartbeats 2000000 in
theorem mov_yes (s:ByteArray) (hs:s.size = 16) (n:Nat) (hn:n <= 3) (X:ByteArray) (hX:X = bs (movL n s.data.toList)):Ret 244 #[.string s,.int .i64 (n:Int)] (.string X):=by
 intro w
 have c1:=fits_ret s true (by omega) (by rw [decide_eq_true hs])
 obtain ⟨L,hL⟩:∃ L,L = movL n s.data.toList:=⟨_,rfl⟩
 have hLl:L.length = 16:=by rw [hL]; exact pickL_len _ _
 rw [<- hL] at hX
 have hsi:(s.size:Int) = 16:=by omega
 have HX:=lH hX
 clear hX
 have HL:=lH hL
 clear hL
 have Hs:=lH hs
 clear hs
 have HLl:=lH hLl
 clear hLl
 go_enter Tryz.func244,Tryz.ntmps244
 go_wp2_with fail
 refine (c1).calls ?_
 go_wp2_with fail
 go_loop [5,6] (fun o i => ∃ (c:Nat) (O:ByteArray),c <= 4 /\ i = .int .i64 (c:Int) /\ o = .string O /\ O.size <= 16 /\ Hid (O = bs (L.take (4 * c)))) (fun _ i => 4 - (intOf i).toNat)
 case atStart => exact ⟨0,⟨#[]⟩,by omega,rfl,rfl,by decide,lH rfl⟩
 case round =>
   obtain ⟨c,O,hc,rfl,rfl,hO,HO⟩:=hrel
   by_cases hlc:c < 4
   · have hdb:decide ((c:Int) < 4) = true:=decide_eq_true (by omega)
     go_wp2_with fail
     go_loop [5,7] (fun o i => ∃ (r:Nat) (O:ByteArray),r <= 4 /\ i = .int .i64 (r:Int) /\ o = .string O /\ O.size <= 16 /\ Hid (O = bs (L.take (4 * c + r)))) (fun _ i => 4 - (intOf i).toNat)
     case atStart => exact ⟨0,O,by omega,rfl,rfl,hO,HO⟩
     case round =>
       clear hO HO
       obtain ⟨r,O,hr,rfl,rfl,hO,HO⟩:=hrel
       by_cases hlr:r < 4
       · obtain ⟨q,hq⟩:∃ q,q = (c + n * r) % 4:=⟨_,rfl⟩
         have hq4:q < 4:=by omega
         obtain ⟨p,hp⟩:∃ p,p = n * r:=⟨_,rfl⟩
         have hp9:p <= 9:=by rw [hp]; exact Nat.mul_le_mul hn (show r <= 3 by omega)
         have e0:(n:Int) * (r:Int) = (p:Int):=by rw [hp,Int.natCast_mul]
         have e1:((c:Int) + (p:Int)) % 4 = (q:Int):=by rw [<- hp] at hq; omega
         have hent:ent L (4 * c + r) = s[4 * q + r].toNat:=by
           rw [HL.out]
           unfold movL
           rw [pick_ent _ _ _ (by omega),show (4 * c + r) % 4 = r from by omega,show (4 * c + r) / 4 = c from by omega,<- hq,ent_s s _ (by have:=Hs.out; omega)]
         have hcat:O ++ s.extract (4 * q + r) (4 * q + r + 1) = bs (L.take (4 * c + r + 1)):=by
           apply ba_ext
           rw [app_list,RefOct.one_ext s _ (by have:=Hs.out; omega),HO.out,list_bs,list_bs,take_snoc L _ (by have:=HLl.out; omega),hent]
           simp
         obtain ⟨O2,hO2⟩:∃ O2,O2 = O ++ s.extract (4 * q + r) (4 * q + r + 1):=⟨_,rfl⟩
         have hO2s:O2.size <= 16:=by rw [hO2,hcat,size_bs]; simp; omega
         rw [<- hO2] at hcat
         have hx1:(s.extract (4 * q + r) (4 * q + r + 1)).size = 1:=by simp; have:=Hs.out; omega
         have hsz:¬ 9223372036854775807 < O.size + (s.extract (4 * q + r) (4 * q + r + 1)).size:=by omega
         have hrel2:=lH hcat
         have hO2':=hO2.symm
         clear hent hcat hq hp hO2
         obtain ⟨Pc,hPc⟩:∃ Pc,s.extract (4 * q + r) (4 * q + r + 1) = Pc:=⟨_,rfl⟩
         rw [hPc] at hsz hO2' hx1
         go_wp2_with fail
         go_round
         case rel => exact ⟨r + 1,O2,by omega,by go_num,rfl,hO2s,hrel2⟩
         case measure => simp [intOf]; omega
       · obtain rfl:r = 4:=by omega
         go_wp2_with fail
         go_round
         case rel => exact ⟨c + 1,O,by omega,by go_num,rfl,hO,HO⟩
         case measure => simp [intOf]; omega
   · obtain rfl:c = 4:=by omega
     have hO2:O = X:=by rw [HO.out,HX.out,List.take_of_length_le (by have:=HLl.out; omega)]
     subst hO2
     go_wp2_with fail
     go_ret
     exact ⟨rfl,rfl⟩
def facS (f:Nat -> Nat) (B:ByteArray):Prop:=B.size = 4 /\ ∀ (j:Nat) (h:j < B.size),B[j].toNat = f j
theorem conv_any (x:Int) (S:ByteArray) (hS:strOfNums [x] = S):∀ (W:World) (g:Nat),W.cell? ⟨g,0,none⟩ = some (.int .u8 x) -> ∀ dst,Tryz.prog.underlying dst = some .string -> (convert 114 dst (.slice (some ⟨g,0,none⟩) 1 1)).run Tryz.prog W = .ok (.string S) W:=by
 subst hS
 intro W g hc
 refine run_convert_bytes_arg (P:=Tryz.prog) W 114 5 Tryz.underlying114 Tryz.underlying5 g 0 1 1 [x] rfl fun i hi => ?_
 obtain rfl:i = 0:=by omega
 exact hc
theorem one_num (n:Nat):strOfNums [(n:Int)] = bs [UInt8.ofNat n]:=rfl
set_option maxHeartbeats 4000000 in
theorem mixed_yes (s:ByteArray) (hs:s.size = 16) (f:Nat -> Nat) (hf:∀ j,j < 4 -> f j < 256) (B:ByteArray) (hB:facS f B) (X:ByteArray) (hX:X = bs (mixL f s.data.toList)):Mak 245 #[.string s,.string B] (.string X):=by
 intro w
 have c1:=fits_ret s true (by omega) (by rw [decide_eq_true hs])
 obtain ⟨L,hL⟩:∃ L,L = mixL f s.data.toList:=⟨_,rfl⟩
 have hLl:L.length = 16:=by rw [hL]; exact mixL_len _ _
 rw [<- hL] at hX
 have hsi:(s.size:Int) = 16:=by omega
 obtain ⟨hb4,hbj⟩:=hB
 have hbi:(B.size:Int) = 4:=by omega
 have HX:=lH hX
 clear hX
 have HL:=lH hL
 clear hL
 have Hs:=lH hs
 clear hs
 have HLl:=lH hLl
 clear hLl
 have Hb4:=lH hb4
 clear hb4
 have Hbj:=lH hbj
 clear hbj
 have Hf:=lH hf
 clear hf
 go_enter Tryz.func245,Tryz.ntmps245
 go_wp2_with fail
 refine (c1).calls ?_
 go_wp2_with fail
 go_loopw [5,6] (fun o i wr => ∃ (c:Nat) (O:ByteArray),c <= 4 /\ i = .int .i64 (c:Int) /\ o = .string O /\ O.size <= 16 /\ Hid (O = bs (L.take (4 * c))) /\ Hid (Since w wr)) (fun _ i _ => 4 - (intOf i).toNat)
 case atStart => exact ⟨0,⟨#[]⟩,by omega,rfl,rfl,by decide,lH rfl,lH (Since.refl w)⟩
 case round =>
   obtain ⟨c,O,hc,rfl,rfl,hO,HO,HS⟩:=hrel
   by_cases hlc:c < 4
   · have hdb:decide ((c:Int) < 4) = true:=decide_eq_true (by omega)
     go_wp2_with fail
     go_loopw [5,7] (fun o i wr => ∃ (r:Nat) (O:ByteArray),r <= 4 /\ i = .int .i64 (r:Int) /\ o = .string O /\ O.size <= 16 /\ Hid (O = bs (L.take (4 * c + r))) /\ Hid (Since w wr)) (fun _ i _ => 4 - (intOf i).toNat)
     case atStart => exact ⟨0,O,by omega,rfl,rfl,hO,HO,HS⟩
     case round =>
       clear hO HO HS
       obtain ⟨r,O,hr,rfl,rfl,hO,HO,HS⟩:=hrel
       by_cases hlr:r < 4
       · have hdr:decide ((r:Int) < 4) = true:=decide_eq_true (by omega)
         go_wp2_with fail
         go_loopw [8,9] (fun v i wr => ∃ (n m:Nat),n <= 4 /\ i = .int .i64 (n:Int) /\ v = .int .u8 (m:Int) /\ m < 256 /\ Hid (m = mixP f s.data.toList (4 * c + r) n) /\ Hid (Since w wr)) (fun _ i _ => 4 - (intOf i).toNat)
         case atStart => exact ⟨0,0,by omega,rfl,rfl,by omega,lH rfl,HS⟩
         case round =>
           clear HS
           obtain ⟨n,m,hn,rfl,rfl,hm,HM,HS⟩:=hrel
           by_cases hln:n < 4
           · obtain ⟨q,hq⟩:∃ q,q = (r + n) % 4:=⟨_,rfl⟩
             have hq4:q < 4:=by omega
             have e1:((r:Int) + (n:Int)) % 4 = (q:Int):=by omega
             have e2:((r:Int) + (n:Int)).tmod 4 = (q:Int):=by rw [Int.tmod_eq_emod_of_nonneg (by omega)]; exact e1
             have e3:IntKind.i64.wrap ((r:Int) + (n:Int)) = (r:Int) + (n:Int):=IntWalk.i64_in _ (by omega)
             have e4:IntKind.i64.wrap (4 * (c:Int)) = 4 * (c:Int):=IntWalk.i64_in _ (by omega)
             have e5:IntKind.i64.wrap (4 * (c:Int) + (q:Int)) = 4 * (c:Int) + (q:Int):=IntWalk.i64_in _ (by omega)
             have e6:(4 * (c:Int) + (q:Int)).toNat = 4 * c + q:=by omega
             have hnb:n < B.size:=by rw [Hb4.out]; exact hln
             have hqs:4 * c + q < s.size:=by rw [Hs.out]; omega
             have hbn:=Hbj.out n hnb
             have hfn:=Hf.out n hln
             have hsucc:=mixP_succ f s.data.toList r c n q hlr hlc hq
             rw [<- HM.out,ent_s s _ hqs] at hsucc
             have hx:=s[4 * c + q].toNat_lt
             have hy:=B[n].toNat_lt
             have c2:=RefField.mul_ret (B[n].toNat) (s[4 * c + q].toNat)
             have hz:=Gf.mul_lt (B[n].toNat) (s[4 * c + q].toNat) hy
             rw [<- hbn,Gf.mul_comm _ _ hx hy] at hsucc
             obtain ⟨z,hzz⟩:∃ z,z = Gf.mul (B[n].toNat) (s[4 * c + q].toNat):=⟨_,rfl⟩
             rw [<- hzz] at c2 hz hsucc
             have C2:Ret 260 #[.int .u8 (B[n].toNat:Int),.int .u8 (s[4 * c + q].toNat:Int)] (.int .u8 (z:Int)):=fun w => c2 w (by omega) (by omega)
             have hbx:=u8_xor_nat m z hm hz
             have hv:=Nat.xor_lt_two_pow (n:=8) hm hz
             obtain ⟨v,hvv⟩:∃ v,v = m ^^^ z:=⟨_,rfl⟩
             rw [<- hvv] at hsucc hbx hv
             have Hsucc:=lH hsucc
             clear hsucc
             have i1:(0:Int) <= (n:Int):=by omega
             have i2:(n:Int) < 4:=by omega
             have i3:(0:Int) <= 4 * (c:Int) + (q:Int):=by omega
             have i4:4 * (c:Int) + (q:Int) < 16:=by omega
             clear c2 hvv hzz hbn hfn hq
             go_wp2_with fail
             go_quiet ((go_at_call 260; exact Calls.quiet_of_same (Ret.still C2 _)))
             go_wp2_with fail
             go_roundw
             case rel => exact ⟨n + 1,v,by omega,by go_num,rfl,hv,lH Hsucc.out.symm,lH (Since.step HS.out ⟨rfl,rfl,rfl,Nat.le_refl _,fun _ _ => rfl⟩)⟩
             case measure => simp [intOf]; omega
           · obtain rfl:n = 4:=by omega
             have K1:=conv_any (m:Int) (bs [UInt8.ofNat m]) (one_num m)
             have hent:ent L (4 * c + r) = m:=by
               rw [HL.out,mix_ent _ _ _ (by omega),HM.out]
             obtain ⟨Pc,hPc⟩:∃ Pc,bs [UInt8.ofNat m] = Pc:=⟨_,rfl⟩
             have hcat:O ++ Pc = bs (L.take (4 * c + r + 1)):=by
               apply ba_ext
               rw [app_list,<- hPc,HO.out,list_bs,list_bs,list_bs,take_snoc L _ (by have:=HLl.out; omega),hent]
             have hx1:Pc.size = 1:=by rw [<- hPc]; rfl
             rw [hPc] at K1
             obtain ⟨O2,hO2⟩:∃ O2,O ++ Pc = O2:=⟨_,rfl⟩
             rw [hO2] at hcat
             have hO2s:O2.size <= 16:=by rw [hcat,size_bs]; simp; omega
             have hsz:¬ 9223372036854775807 < O.size + Pc.size:=by omega
             have hrel2:=lH hcat
             clear hent hcat hPc
             go_wp2_with fail
             go_roundw
             case rel => exact ⟨r + 1,O2,by omega,by go_num,rfl,hO2s,hrel2,lH (Since.alloc HS.out _)⟩
             case measure => simp [intOf]; omega
       · obtain rfl:r = 4:=by omega
         go_wp2_with fail
         go_roundw
         case rel => exact ⟨c + 1,O,by omega,by go_num,rfl,hO,HO,HS⟩
         case measure => simp [intOf]; omega
   · obtain rfl:c = 4:=by omega
     have hO2:O = X:=by rw [HO.out,HX.out,List.take_of_length_le (by have:=HLl.out; omega)]
     subst hO2
     go_wp2_with fail
     go_ret
     exact ⟨rfl,HS.out⟩
set_option maxHeartbeats 1000000 in
theorem shift_mak (s:ByteArray) (hs:s.size = 16) (X:ByteArray) (hX:X = bs (shiftL s.data.toList)):Mak 223 #[.string s] (.string X):=by
 intro w
 have c1:=Ret.mak (mov_yes s hs 1 (by decide) X (by rw [hX,mov1]))
 have H0:=lH (Since.refl w)
 clear hX hs
 go_enter Tryz.func223,Tryz.ntmps223
 go_wp2_with fail
 refine c1.calls H0.out ?_
 intro w1 h1
 have H1:=lH h1
 clear h1
 go_wp2_with fail
 go_ret
 exact ⟨rfl,H1.out⟩
set_option maxHeartbeats 1000000 in
theorem unshift_mak (s:ByteArray) (hs:s.size = 16) (X:ByteArray) (hX:X = bs (unshiftL s.data.toList)):Mak 227 #[.string s] (.string X):=by
 intro w
 have c1:=Ret.mak (mov_yes s hs 3 (by decide) X (by rw [hX,mov3]))
 have H0:=lH (Since.refl w)
 clear hX hs
 go_enter Tryz.func227,Tryz.ntmps227
 go_wp2_with fail
 refine c1.calls H0.out ?_
 intro w1 h1
 have H1:=lH h1
 clear h1
 go_wp2_with fail
 go_ret
 exact ⟨rfl,H1.out⟩
theorem fac_mix:facS mixF ⟨#[2,3,1,1]⟩:=⟨rfl,fun j hj => by
 have h4:j < 4:=hj
 match j,h4 with
 | 0,_ | 1,_ | 2,_ | 3,_ => rfl
 | n + 4,h => omega⟩
theorem fac_unmix:facS unmixF ⟨#[14,11,13,9]⟩:=⟨rfl,fun j hj => by
 have h4:j < 4:=hj
 match j,h4 with
 | 0,_ | 1,_ | 2,_ | 3,_ => rfl
 | n + 4,h => omega⟩
theorem mixF_lt:∀ j,j < 4 -> mixF j < 256:=by decide
theorem unmixF_lt:∀ j,j < 4 -> unmixF j < 256:=by decide
set_option maxHeartbeats 1000000 in
theorem mix_mak (s:ByteArray) (hs:s.size = 16) (X:ByteArray) (hX:X = bs ((mixL mixF) s.data.toList)):Mak 224 #[.string s] (.string X):=by
 intro w
 have c1:=mixed_yes s hs mixF mixF_lt ⟨#[2,3,1,1]⟩ fac_mix X hX
 have H0:=lH (Since.refl w)
 clear hX hs
 go_enter Tryz.func224,Tryz.ntmps224
 go_wp2_with fail
 refine c1.calls H0.out ?_
 intro w1 h1
 have H1:=lH h1
 clear h1
 go_wp2_with fail
 go_ret
 exact ⟨rfl,H1.out⟩
set_option maxHeartbeats 1000000 in
theorem unmix_mak (s:ByteArray) (hs:s.size = 16) (X:ByteArray) (hX:X = bs ((mixL unmixF) s.data.toList)):Mak 225 #[.string s] (.string X):=by
 intro w
 have c1:=mixed_yes s hs unmixF unmixF_lt ⟨#[14,11,13,9]⟩ fac_unmix X hX
 have H0:=lH (Since.refl w)
 clear hX hs
 go_enter Tryz.func225,Tryz.ntmps225
 go_wp2_with fail
 refine c1.calls H0.out ?_
 intro w1 h1
 have H1:=lH h1
 clear h1
 go_wp2_with fail
 go_ret
 exact ⟨rfl,H1.out⟩
set_option maxHeartbeats 1000000 in
theorem key_mak (s k:ByteArray) (hs:s.size = 16) (hk:k.size = 16) (X:ByteArray) (hX:X = bs (xorL s.data.toList k.data.toList)):Mak 196 #[.string s,.string k] (.string X):=by
 intro w
 have c0:=fits_ret s true (by omega) (by rw [decide_eq_true hs])
 have c1:=fits_ret k true (by omega) (by rw [decide_eq_true hk])
 have c2:Mak 114 #[.string s,.string k] (.string X):=fun w => by
   have h:=RefOct.xor_any s k 16 w (by omega) (by omega) (by omega)
   rwa [xor_str,<- hX] at h
 have H0:=lH (Since.refl w)
 clear hs hk hX
 go_enter Tryz.func196,Tryz.ntmps196
 go_wp2_with fail
 refine (c0).calls ?_
 go_wp2_with fail
 refine (c1).calls ?_
 go_wp2_with fail
 refine c2.calls H0.out ?_
 intro w1 h1
 have H1:=lH h1
 clear h1
 go_wp2_with fail
 go_ret
 exact ⟨rfl,H1.out⟩
theorem subs_m (s:ByteArray) (hm:s.size <= 1000000) (X:ByteArray) (hX:X = bs (subL s.data.toList)):Mak 220 #[.string s] (.string X):=by
 rw [hX,<- sub_str]; exact RefSbox.subs_mak s hm
theorem backs_m (s:ByteArray) (hm:s.size <= 1000000) (X:ByteArray) (hX:X = bs (backL s.data.toList)):Mak 226 #[.string s] (.string X):=by
 rw [hX,<- back_str]; exact RefSbox.backs_mak s hm
set_option maxHeartbeats 1000000 in
theorem do_mak (s k:ByteArray) (hs:s.size = 16) (hk:k.size = 16) (last:Bool) (X:ByteArray) (hX:X = bs (doL last s.data.toList k.data.toList)):Mak 197 #[.string s,.string k,.bool last] (.string X):=by
 intro w
 have H0:=lH (Since.refl w)
 have f1:=fits_ret s true (by omega) (by rw [decide_eq_true hs])
 have f2:=fits_ret k true (by omega) (by rw [decide_eq_true hk])
 obtain ⟨A,hA⟩:∃ A,A = bs (subL s.data.toList):=⟨_,rfl⟩
 have c1:=subs_m s (by omega) A hA
 have hAs:A.size = 16:=by rw [hA,size_bs,subL_len]; exact hs
 have hAl:A.data.toList = subL s.data.toList:=by rw [hA,list_bs]
 obtain ⟨B,hB⟩:∃ B,B = bs (shiftL A.data.toList):=⟨_,rfl⟩
 have hBs:B.size = 16:=by rw [hB]; exact bs_len _ (shiftL_len _)
 have c2:=shift_mak A hAs B hB
 cases last with
 | true =>
   have c3:=key_mak B k hBs hk X (by rw [hX,hB,list_bs,hAl]; rfl)
   clear hBs hX hAl hs hk hA hAs hB
   go_enter Tryz.func197,Tryz.ntmps197
   go_wp2_with fail
   refine (f1).calls ?_
   go_wp2_with fail
   refine (f2).calls ?_
   go_wp2_with fail
   refine c1.calls H0.out ?_
   intro w1 h1
   have H1:=lH h1
   clear h1
   go_wp2_with fail
   refine c2.calls H1.out ?_
   intro w2 h2
   have H2:=lH h2
   clear h2
   go_wp2_with fail
   refine c3.calls H2.out ?_
   intro w3 h3
   have H3:=lH h3
   clear h3
   go_wp2_with fail
   go_ret
   exact ⟨rfl,H3.out⟩
 | false =>
   obtain ⟨C,hC⟩:∃ C,C = bs (mixL mixF B.data.toList):=⟨_,rfl⟩
   have c4:=mix_mak B hBs C hC
   have c3:=key_mak C k (by rw [hC]; exact bs_len _ (mixL_len _ _)) hk X (by rw [hX,hC,list_bs,hB,list_bs,hAl]; rfl)
   clear hBs hX hAl hs hk hA hAs hB hC
   go_enter Tryz.func197,Tryz.ntmps197
   go_wp2_with fail
   refine (f1).calls ?_
   go_wp2_with fail
   refine (f2).calls ?_
   go_wp2_with fail
   refine c1.calls H0.out ?_
   intro w1 h1
   have H1:=lH h1
   clear h1
   go_wp2_with fail
   refine c2.calls H1.out ?_
   intro w2 h2
   have H2:=lH h2
   clear h2
   go_wp2_with fail
   refine c4.calls H2.out ?_
   intro w3 h3
   have H3:=lH h3
   clear h3
   go_wp2_with fail
   refine c3.calls H3.out ?_
   intro w4 h4
   have H4:=lH h4
   clear h4
   go_wp2_with fail
   go_ret
   exact ⟨rfl,H4.out⟩
set_option maxHeartbeats 1000000 in
theorem undo_mak (s k:ByteArray) (hs:s.size = 16) (hk:k.size = 16) (last:Bool) (X:ByteArray) (hX:X = bs (undoL last s.data.toList k.data.toList)):Mak 201 #[.string s,.string k,.bool last] (.string X):=by
 intro w
 have H0:=lH (Since.refl w)
 have f1:=fits_ret s true (by omega) (by rw [decide_eq_true hs])
 have f2:=fits_ret k true (by omega) (by rw [decide_eq_true hk])
 obtain ⟨A,hA⟩:∃ A,A = bs (xorL s.data.toList k.data.toList):=⟨_,rfl⟩
 have c1:=key_mak s k hs hk A hA
 have hAs:A.size = 16:=by rw [hA]; exact bs_len _ (xorL_len _ _)
 have hAl:A.data.toList = xorL s.data.toList k.data.toList:=by rw [hA,list_bs]
 cases last with
 | true =>
   obtain ⟨B,hB⟩:∃ B,B = bs (unshiftL A.data.toList):=⟨_,rfl⟩
   have hBs:B.size = 16:=by rw [hB]; exact bs_len _ (unshiftL_len _)
   have c2:=unshift_mak A hAs B hB
   have c3:=backs_m B (by omega) X (by rw [hX,hB,list_bs,hAl]; rfl)
   clear hBs hX hAl hs hk hA hAs hB
   go_enter Tryz.func201,Tryz.ntmps201
   go_wp2_with fail
   refine (f1).calls ?_
   go_wp2_with fail
   refine (f2).calls ?_
   go_wp2_with fail
   refine c1.calls H0.out ?_
   intro w1 h1
   have H1:=lH h1
   clear h1
   go_wp2_with fail
   refine c2.calls H1.out ?_
   intro w2 h2
   have H2:=lH h2
   clear h2
   go_wp2_with fail
   refine c3.calls H2.out ?_
   intro w3 h3
   have H3:=lH h3
   clear h3
   go_wp2_with fail
   go_ret
   exact ⟨rfl,H3.out⟩
 | false =>
   obtain ⟨B,hB⟩:∃ B,B = bs (mixL unmixF A.data.toList):=⟨_,rfl⟩
   have hBs:B.size = 16:=by rw [hB]; exact bs_len _ (mixL_len _ _)
   have c2:=unmix_mak A hAs B hB
   obtain ⟨C,hC⟩:∃ C,C = bs (unshiftL B.data.toList):=⟨_,rfl⟩
   have hCs:C.size = 16:=by rw [hC]; exact bs_len _ (unshiftL_len _)
   have c4:=unshift_mak B hBs C hC
   have c3:=backs_m C (by omega) X (by rw [hX,hC,list_bs,hB,list_bs,hAl]; rfl)
   clear hBs hX hAl hs hk hA hAs hB hC hCs
   go_enter Tryz.func201,Tryz.ntmps201
   go_wp2_with fail
   refine (f1).calls ?_
   go_wp2_with fail
   refine (f2).calls ?_
   go_wp2_with fail
   refine c1.calls H0.out ?_
   intro w1 h1
   have H1:=lH h1
   clear h1
   go_wp2_with fail
   refine c2.calls H1.out ?_
   intro w2 h2
   have H2:=lH h2
   clear h2
   go_wp2_with fail
   refine c4.calls H2.out ?_
   intro w3 h3
   have H3:=lH h3
   clear h3
   go_wp2_with fail
   refine c3.calls H3.out ?_
   intro w4 h4
   have H4:=lH h4
   clear h4
   go_wp2_with fail
   go_ret
   exact ⟨rfl,H4.out⟩
end RefRnd
end Go.Proofs.YtddlaafpianjbaaGreatDoor
