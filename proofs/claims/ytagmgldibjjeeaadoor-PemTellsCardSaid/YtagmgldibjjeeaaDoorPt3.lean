import Derived.WalkSpells
import Derived.WalkLawsBesides
import Derived.Lib.Hide
import Derived.Test.YtagmgldibjjeeaaDoorPt2
set_option maxRecDepth 100000
namespace Go.Proofs.YtagmgldibjjeeaaDoor
open Go.RowKit
def Ret (f:Nat) (args:Array Value) (v:Value):Prop:=∀ w,Calls Tryd.prog f args w fun e w' => e = .returned v /\ w = w'
theorem Ret.calls {f:Nat} {args:Array Value} {v:Value} (h:Ret f args v) {w:World} {R:Ending -> World -> Prop} (k:R (.returned v) w):Calls Tryd.prog f args w R :=
 (h w).mono fun _ _ ⟨he,hw⟩ => by subst he; subst hw; exact k
def Mak (f:Nat) (args:Array Value) (v:Value):Prop:=∀ w,Calls Tryd.prog f args w fun e w' => e = .returned v /\ Below w.heap.size w w'
theorem Ret.mak {f:Nat} {args:Array Value} {v:Value} (h:Ret f args v):Mak f args v :=
 fun w => (h w).mono fun _ _ ⟨he,hw⟩ => by subst he; subst hw; exact ⟨rfl,Below.refl _ _⟩
def Since (W0 w:World):Prop:=Below W0.heap.size W0 w
theorem Since.refl (w:World):Since w w:=Below.refl _ _
theorem Since.step {W0 w w':World} (h:Since W0 w) (hb:Below w.heap.size w w'):Since W0 w':=Below.trans h (Below.mono hb (Below.size h))
theorem Since.alloc {W0 w:World} (h:Since W0 w) (o:Obj):Since W0 (w.alloc o):=Below.alloc h (Below.size h) o
theorem Since.drew {W0 w:World} (h:Since W0 w):Since W0 w.drew:=Below.drew h
theorem Mak.calls0 {f:Nat} {args:Array Value} {v:Value} (h:Mak f args v) {w:World} {R:Ending -> World -> Prop} (k:∀ w',Below w.heap.size w w' -> R (.returned v) w'):Calls Tryd.prog f args w R :=
 (h w).mono fun _ _ ⟨he,hb⟩ => by subst he; exact k _ hb
end Go.Proofs.YtagmgldibjjeeaaDoor

namespace Go.Proofs.YtagmgldibjjeeaaDoor
class Up (a b : World) : Prop where up : ∀ {c}, Since b c → Since a c
instance (a : World) : Up a a := ⟨fun h => h⟩
instance (a : World) (o : Obj) : Up a (a.alloc o) := ⟨fun h => (Since.alloc (Since.refl _) _).step h⟩
instance (a : World) (o p : Obj) : Up a ((a.alloc o).alloc p) := ⟨fun h => (Since.alloc (Since.alloc (Since.refl _) _) _).step h⟩
instance (a : World) (o p q : Obj) : Up a (((a.alloc o).alloc p).alloc q) := ⟨fun h => (Since.alloc (Since.alloc (Since.alloc (Since.refl _) _) _) _).step h⟩
instance (a : World) : Up a a.drew := ⟨fun h => (Since.drew (Since.refl _)).step h⟩
theorem lH {p : Prop} (h : p) : RowKit.Hid p := Lib.hid h
end Go.Proofs.YtagmgldibjjeeaaDoor
namespace Go.Proofs.YtagmgldibjjeeaaDoor
open Go.RowKit
namespace Pm
def sg (d:Nat):UInt8:=UInt8.ofNat (if d < 26 then 65 + d else if d < 52 then 71 + d else if d < 62 then d - 4 else if d = 62 then 43 else 47)
def num3 (a b c:UInt8):Nat:=a.toNat * 65536 + b.toNat * 256 + c.toNat
def pick (x n i:Nat):UInt8:=if i <= n then sg (x / 2 ^ (18 - 6 * i) % 64) else 61
def four (x n:Nat):List UInt8:=[pick x n 0,pick x n 1,pick x n 2,pick x n 3]
def baseL:List UInt8 -> List UInt8
 | [] => []
 | [a] => four (num3 a 0 0) 1
 | [a,b] => four (num3 a b 0) 2
 | a :: b :: c :: l => four (num3 a b c) 3 ++ baseL l
theorem base_len:∀ l:List UInt8,(baseL l).length = 4 * ((l.length + 2) / 3)
 | [] => rfl
 | [a] => by rw [baseL]; unfold four; simp
 | [a,b] => by rw [baseL]; unfold four; simp
 | a :: b :: c :: l => by
   rw [baseL,List.length_append,base_len l]
   show 4 + 4 * ((l.length + 2) / 3) = 4 * ((l.length + 1 + 1 + 1 + 2) / 3)
   omega
def val (c:UInt8):Option Nat:=(List.range 64).find? fun d => sg d == c
theorem val_all:∀ d:Nat,d < 64 -> val (sg d) = some d /\ sg d ≠ 61:=by decide +kernel
theorem val_lt {c:UInt8} {d:Nat} (h:val c = some d):d < 64:=List.mem_range.1 (List.mem_of_find?_eq_some h)
def st (s:Nat × Nat × List UInt8) (v:Nat):Nat × Nat × List UInt8 :=
 if 8 <= s.2.1 + 6 then ((s.1 * 64 + v) % 4096,s.2.1 + 6 - 8,s.2.2 ++ [UInt8.ofNat ((s.1 * 64 + v) % 4096 / 2 ^ (s.2.1 + 6 - 8))]) else ((s.1 * 64 + v) % 4096,s.2.1 + 6,s.2.2)
def run:Nat × Nat × List UInt8 -> List UInt8 -> Option (Nat × Nat × List UInt8)
 | s,[] => some s
 | s,c :: l => match val c with
   | none => none
   | some v => run (st s v) l
def trimR (l:List UInt8):List UInt8:=(l.reverse.dropWhile (· == 61)).reverse
def candU (t:List UInt8):Option (List UInt8):=(run (0,0,[]) (trimR t)).map (·.2.2)
def unbV (t:List UInt8):List UInt8 × Bool:=match candU t with
 | some u => if baseL u = t then (u,true) else ([],false)
 | none => ([],false)
theorem run_app (s:Nat × Nat × List UInt8) (l m:List UInt8):run s (l ++ m) = (run s l).bind fun s' => run s' m:=by
 induction l generalizing s with
 | nil => rfl
 | cons c l ih =>
   rw [List.cons_append,run,run]
   cases val c with
   | none => rfl
   | some v => exact ih _
theorem run_sg (s:Nat × Nat × List UInt8) (d:Nat) (hd:d < 64) (l:List UInt8):run s (sg d :: l) = run (st s d) l:=by
 rw [run,(val_all d hd).1]
theorem of_nat (a:UInt8) (x:Nat) (h:x % 256 = a.toNat):UInt8.ofNat x = a:=by
 apply UInt8.toNat_inj.1
 rw [UInt8.toNat_ofNat']
 exact h
theorem st0 (x v:Nat) (out:List UInt8):st (x,0,out) v = ((x * 64 + v) % 4096,6,out):=rfl
theorem st6 (x v:Nat) (out:List UInt8):st (x,6,out) v = ((x * 64 + v) % 4096,4,out ++ [UInt8.ofNat ((x * 64 + v) % 4096 / 16)]):=rfl
theorem st4 (x v:Nat) (out:List UInt8):st (x,4,out) v = ((x * 64 + v) % 4096,2,out ++ [UInt8.ofNat ((x * 64 + v) % 4096 / 4)]):=rfl
theorem st2 (x v:Nat) (out:List UInt8):st (x,2,out) v = ((x * 64 + v) % 4096,0,out ++ [UInt8.ofNat ((x * 64 + v) % 4096 / 1)]):=rfl
theorem pick_in (x n i:Nat) (h:i <= n):pick x n i = sg (x / 2 ^ (18 - 6 * i) % 64):=if_pos h
theorem pick_out (x n i:Nat) (h:¬ i <= n):pick x n i = 61:=if_neg h
theorem run_2 (x:Nat) (out l:List UInt8) (a b c:UInt8):∃ y,run (x,0,out) (sg (num3 a b c / 2 ^ 18 % 64) :: sg (num3 a b c / 2 ^ 12 % 64) :: l) = run (y,4,out ++ [a]) l /\ y % 64 = num3 a b c / 4096 % 64:=by
 have ha:=a.toNat_lt
 have hb:=b.toNat_lt
 have hc:=c.toNat_lt
 rw [run_sg _ _ (Nat.mod_lt _ (by decide)),st0,run_sg _ _ (Nat.mod_lt _ (by decide)),st6]
 refine ⟨((x * 64 + num3 a b c / 2 ^ 18 % 64) % 4096 * 64 + num3 a b c / 2 ^ 12 % 64) % 4096, ?_, ?_⟩
 · rw [of_nat a]
   unfold num3
   omega
 · unfold num3
   omega
theorem run_3 (y:Nat) (out l:List UInt8) (a b c:UInt8) (hy:y % 64 = num3 a b c / 4096 % 64):∃ z,run (y,4,out) (sg (num3 a b c / 2 ^ 6 % 64) :: l) = run (z,2,out ++ [b]) l /\ z % 64 = num3 a b c / 64 % 64:=by
 have ha:=a.toNat_lt
 have hb:=b.toNat_lt
 have hc:=c.toNat_lt
 rw [run_sg _ _ (Nat.mod_lt _ (by decide)),st4]
 unfold num3 at hy ⊢
 refine ⟨(y * 64 + (a.toNat * 65536 + b.toNat * 256 + c.toNat) / 2 ^ 6 % 64) % 4096, ?_, ?_⟩
 · rw [of_nat b]
   omega
 · omega
theorem run_4 (z:Nat) (out l:List UInt8) (a b c:UInt8) (hz:z % 64 = num3 a b c / 64 % 64):∃ y,run (z,2,out) (sg (num3 a b c / 2 ^ 0 % 64) :: l) = run (y,0,out ++ [c]) l:=by
 have ha:=a.toNat_lt
 have hb:=b.toNat_lt
 have hc:=c.toNat_lt
 rw [run_sg _ _ (Nat.mod_lt _ (by decide)),st2]
 unfold num3 at hz ⊢
 refine ⟨(z * 64 + (a.toNat * 65536 + b.toNat * 256 + c.toNat) / 2 ^ 0 % 64) % 4096, ?_⟩
 rw [of_nat c]
 omega
def sigs:List UInt8 -> List UInt8
 | [] => []
 | [a] => [pick (num3 a 0 0) 1 0,pick (num3 a 0 0) 1 1]
 | [a,b] => [pick (num3 a b 0) 2 0,pick (num3 a b 0) 2 1,pick (num3 a b 0) 2 2]
 | a :: b :: c :: l => four (num3 a b c) 3 ++ sigs l
theorem run_sigs:∀ (l:List UInt8) (x:Nat) (out:List UInt8),(run (x,0,out) (sigs l)).map (·.2.2) = some (out ++ l)
 | [],x,out => by rw [List.append_nil]; rfl
 | [a],x,out => by
   obtain ⟨y,h1,-⟩:=run_2 x out [] a 0 0
   rw [sigs,pick_in _ _ _ (by omega),pick_in _ _ _ (by omega)]
   exact congrArg _ h1
 | [a,b],x,out => by
   obtain ⟨y,h1,h2⟩:=run_2 x out [sg (num3 a b 0 / 2 ^ 6 % 64)] a b 0
   obtain ⟨z,h3,-⟩:=run_3 y (out ++ [a]) [] a b 0 h2
   rw [sigs,pick_in _ _ _ (by omega),pick_in _ _ _ (by omega),pick_in _ _ _ (by omega)]
   have h4:=h1.trans h3
   rw [List.append_assoc] at h4
   exact congrArg _ h4
 | a :: b :: c :: l,x,out => by
   obtain ⟨y,h1,h2⟩:=run_2 x out (sg (num3 a b c / 2 ^ 6 % 64) :: sg (num3 a b c / 2 ^ 0 % 64) :: sigs l) a b c
   obtain ⟨z,h3,h4⟩:=run_3 y (out ++ [a]) (sg (num3 a b c / 2 ^ 0 % 64) :: sigs l) a b c h2
   obtain ⟨q,h5⟩:=run_4 z (out ++ [a] ++ [b]) (sigs l) a b c h4
   have h6:=run_sigs l q (out ++ [a] ++ [b] ++ [c])
   rw [sigs]
   unfold four
   rw [pick_in _ _ _ (by omega),pick_in _ _ _ (by omega),pick_in _ _ _ (by omega),pick_in _ _ _ (by omega)]
   have h7:=(h1.trans h3).trans h5
   rw [show out ++ a :: b :: c :: l = out ++ [a] ++ [b] ++ [c] ++ l by simp]
   rw [<- h6]
   exact congrArg _ h7
theorem base_sigs:∀ l:List UInt8,∃ k,baseL l = sigs l ++ List.replicate k 61
 | [] => ⟨0,rfl⟩
 | [a] => ⟨2,by rw [baseL,four,pick_out _ 1 2 (by omega),pick_out _ 1 3 (by omega)]; rfl⟩
 | [a,b] => ⟨1,by rw [baseL,four,pick_out _ 2 3 (by omega)]; rfl⟩
 | a :: b :: c :: l => by
   obtain ⟨k,h⟩:=base_sigs l
   exact ⟨k,by rw [baseL,sigs,h,List.append_assoc]⟩
theorem sigs_ne:∀ (l:List UInt8),∀ c ∈ sigs l,c ≠ 61
 | [],c,h => by cases h
 | [a],c,h => by
   rw [sigs,pick_in _ _ _ (by omega),pick_in _ _ _ (by omega)] at h
   simp only [List.mem_cons,List.not_mem_nil,or_false] at h
   rcases h with rfl | rfl <;> exact (val_all _ (Nat.mod_lt _ (by decide))).2
 | [a,b],c,h => by
   rw [sigs,pick_in _ _ _ (by omega),pick_in _ _ _ (by omega),pick_in _ _ _ (by omega)] at h
   simp only [List.mem_cons,List.not_mem_nil,or_false] at h
   rcases h with rfl | rfl | rfl <;> exact (val_all _ (Nat.mod_lt _ (by decide))).2
 | a :: b :: d :: l,c,h => by
   rw [sigs,List.mem_append] at h
   rcases h with h | h
   · unfold four at h
     rw [pick_in _ _ _ (by omega),pick_in _ _ _ (by omega),pick_in _ _ _ (by omega),pick_in _ _ _ (by omega)] at h
     simp only [List.mem_cons,List.not_mem_nil,or_false] at h
     rcases h with rfl | rfl | rfl | rfl <;> exact (val_all _ (Nat.mod_lt _ (by decide))).2
   · exact sigs_ne l c h
theorem trim_sigs (l:List UInt8) (k:Nat) (h:∀ c ∈ l,c ≠ 61):trimR (l ++ List.replicate k 61) = l:=by
 unfold trimR
 rw [List.reverse_append,List.reverse_replicate]
 have h1:∀ (m:List UInt8),(∀ c ∈ m,c ≠ 61) -> m.dropWhile (· == 61) = m:=fun m hm => by
   cases m with
   | nil => rfl
   | cons c m => rw [List.dropWhile_cons_of_neg]; simpa using hm c (List.mem_cons_self ..)
 have h2:∀ k:Nat,(List.replicate k (61:UInt8) ++ l.reverse).dropWhile (· == 61) = l.reverse:=by
   intro k
   induction k with
   | zero => exact h1 _ (fun c hc => h c (List.mem_reverse.1 hc))
   | succ k ih =>
     rw [List.replicate_succ,List.cons_append,List.dropWhile_cons_of_pos (by rfl)]
     exact ih
 rw [h2,List.reverse_reverse]
theorem cand_base (l:List UInt8):candU (baseL l) = some l:=by
 obtain ⟨k,h⟩:=base_sigs l
 unfold candU
 rw [h,trim_sigs _ k (sigs_ne l),run_sigs l 0 []]
 rfl
theorem unb_base (l:List UInt8):unbV (baseL l) = (l,true):=by
 unfold unbV
 rw [cand_base]
 exact if_pos rfl
theorem unb_ok {t:List UInt8} (h:(unbV t).2 = true):baseL (unbV t).1 = t:=by
 unfold unbV at h ⊢
 cases hc:candU t with
 | none => rw [hc] at h; cases h
 | some u =>
   rw [hc] at h
   dsimp only at h ⊢
   by_cases hb:baseL u = t
   · rw [if_pos hb]; exact hb
   · rw [if_neg hb] at h; cases h
theorem unb_no {t:List UInt8} (h:(unbV t).2 = false):unbV t = ([],false):=by
 unfold unbV at h ⊢
 cases hc:candU t with
 | none => rfl
 | some u =>
   rw [hc] at h
   dsimp only at h ⊢
   by_cases hb:baseL u = t
   · rw [if_pos hb] at h; cases h
   · rw [if_neg hb]
end Pm
namespace Pm
def okC (c:UInt8):Bool:=(decide (65 <= c.toNat) && decide (c.toNat <= 90)) || (decide (48 <= c.toNat) && decide (c.toNat <= 57)) || decide (c.toNat = 32)
def nameOk (l:List UInt8):Bool:=decide (1 <= l.length) && (decide (l.length <= 40) && (l.all okC && (decide (l.head? ≠ some 32) && decide (l.getLast? ≠ some 32))))
def begL:List UInt8:=[45,45,45,45,45,66,69,71,73,78,32]
def endL:List UInt8:=[45,45,45,45,45,69,78,68,32]
def dshL:List UInt8:=[45,45,45,45,45,10]
def linesF:Nat -> List UInt8 -> List (List UInt8)
 | 0,_ => []
 | f + 1,l => if l = [] then [] else l.take 64 :: linesF f (l.drop 64)
def linesL (l:List UInt8):List (List UInt8):=linesF l.length l
def bodyL (ls:List (List UInt8)):List UInt8:=ls.flatMap fun l => l ++ [10]
def armorL (name b:List UInt8):List UInt8:=begL ++ name ++ dshL ++ bodyL (linesL (baseL b)) ++ endL ++ name ++ dshL
def armV (name b:List UInt8):List UInt8 × Int:=if nameOk name = false then ([],1) else if b = [] then ([],3) else if 65552 < b.length then ([],4) else (armorL name b,0)
theorem lines_join:∀ (f:Nat) (l:List UInt8),l.length <= f -> (linesF f l).flatten = l
 | 0,l,h => by rw [List.length_eq_zero_iff.1 (Nat.le_zero.1 h)]; rfl
 | f + 1,l,h => by
   rw [linesF]
   by_cases h0:l = []
   · rw [if_pos h0,h0]; rfl
   · rw [if_neg h0,List.flatten_cons,lines_join f (l.drop 64) (by
       rw [List.length_drop]
       have:0 < l.length:=List.length_pos_iff.2 h0
       omega),List.take_append_drop]
theorem flat_lines (l:List UInt8):(linesL l).flatten = l:=lines_join l.length l (Nat.le_refl _)
theorem body_flat (ls:List (List UInt8)) (h:∀ l ∈ ls,(10:UInt8) ∉ l):(bodyL ls).filter (· ≠ 10) = ls.flatten:=by
 unfold bodyL
 induction ls with
 | nil => rfl
 | cons l ls ih =>
   rw [List.flatMap_cons,List.filter_append,List.filter_append,ih (fun x hx => h x (List.mem_cons_of_mem _ hx)),List.flatten_cons]
   have h1:l.filter (fun c => decide (c ≠ 10)) = l:=List.filter_eq_self.2 (fun c hc => decide_eq_true (fun e => h l (List.mem_cons_self ..) (e ▸ hc)))
   rw [h1]
   show l ++ [] ++ _ = _
   rw [List.append_nil]
theorem sg_ne:∀ d:Nat,d < 64 -> sg d ≠ 10 /\ sg d ≠ 45:=by decide +kernel
theorem base_free:∀ (l:List UInt8),∀ c ∈ baseL l,c ≠ 10:=fun l c hc => by
 obtain ⟨k,h⟩:=base_sigs l
 rw [h] at hc
 rcases List.mem_append.1 hc with hc | hc
 · have key:∀ (l:List UInt8),∀ c ∈ sigs l,∃ d,d < 64 /\ c = sg d:=by
     intro l
     induction l using sigs.induct with
     | case1 => intro c h; cases h
     | case2 a =>
       intro c h
       rw [sigs,pick_in _ _ _ (by omega),pick_in _ _ _ (by omega)] at h
       simp only [List.mem_cons,List.not_mem_nil,or_false] at h
       rcases h with rfl | rfl <;> exact ⟨_,Nat.mod_lt _ (by decide),rfl⟩
     | case3 a b =>
       intro c h
       rw [sigs,pick_in _ _ _ (by omega),pick_in _ _ _ (by omega),pick_in _ _ _ (by omega)] at h
       simp only [List.mem_cons,List.not_mem_nil,or_false] at h
       rcases h with rfl | rfl | rfl <;> exact ⟨_,Nat.mod_lt _ (by decide),rfl⟩
     | case4 a b d l ih =>
       intro c h
       rw [sigs,List.mem_append] at h
       rcases h with h | h
       · unfold four at h
         rw [pick_in _ _ _ (by omega),pick_in _ _ _ (by omega),pick_in _ _ _ (by omega),pick_in _ _ _ (by omega)] at h
         simp only [List.mem_cons,List.not_mem_nil,or_false] at h
         rcases h with rfl | rfl | rfl | rfl <;> exact ⟨_,Nat.mod_lt _ (by decide),rfl⟩
       · exact ih c h
   obtain ⟨d,hd,rfl⟩:=key l c hc
   exact (sg_ne d hd).1
 · rw [(List.mem_replicate.1 hc).2]
   decide
theorem lines_mem:∀ (f:Nat) (l x:List UInt8),x ∈ linesF f l -> ∀ c ∈ x,c ∈ l
 | 0,_,_,h,_,_ => by cases h
 | f + 1,l,x,h,c,hc => by
   rw [linesF] at h
   by_cases h0:l = []
   · rw [if_pos h0] at h; cases h
   · rw [if_neg h0] at h
     rcases List.mem_cons.1 h with rfl | h
     · exact List.mem_of_mem_take hc
     · exact List.mem_of_mem_drop (lines_mem f _ x h c hc)
theorem body_base (b:List UInt8):(bodyL (linesL (baseL b))).filter (· ≠ 10) = baseL b:=by
 rw [body_flat (linesL (baseL b)) (fun l hl h => base_free b 10 (lines_mem _ _ l hl 10 h) rfl),flat_lines]
theorem ok_free {l:List UInt8} (h:nameOk l = true):(45:UInt8) ∉ l:=by
 unfold nameOk at h
 simp only [Bool.and_eq_true] at h
 intro h9
 have h8:=List.all_eq_true.1 h.2.2.1 45 h9
 exact absurd h8 (by decide)
def cutP (p:List UInt8):List UInt8 -> Option (List UInt8 × List UInt8)
 | [] => if p.isPrefixOf [] = true then some ([],[]) else none
 | c :: l => if p.isPrefixOf (c :: l) = true then some ([],(c :: l).drop p.length) else match cutP p l with
   | none => none
   | some (a,b) => some (c :: a,b)
theorem cut_name (name X:List UInt8) (h:(45:UInt8) ∉ name):cutP dshL (name ++ (dshL ++ X)) = some (name,X):=by
 induction name with
 | nil =>
   show cutP dshL (45 :: ([45,45,45,45,10] ++ X)) = _
   rw [cutP,if_pos (by show dshL.isPrefixOf (dshL ++ X) = true; exact List.isPrefixOf_iff_prefix.2 (List.prefix_append _ _))]
   rfl
 | cons c l ih =>
   have h1:c ≠ 45:=fun e => h (e ▸ List.mem_cons_self ..)
   rw [List.cons_append,cutP,if_neg,ih (fun h9 => h (List.mem_cons_of_mem _ h9))]
   intro h9
   have h8:=List.isPrefixOf_iff_prefix.1 h9
   obtain ⟨r,hr⟩:=h8
   exact h1 (List.cons.inj hr).1.symm
def candA (t:List UInt8):Option (List UInt8 × List UInt8):=if begL.isPrefixOf t = true then match cutP dshL (t.drop 11) with
   | none => none
   | some (name,rest) => if (endL ++ name ++ dshL).isSuffixOf rest = true then some (name,rest.take (rest.length - (endL ++ name ++ dshL).length)) else none
 else none
def bytesA (body:List UInt8):List UInt8:=(unbV (body.filter (· ≠ 10))).1
def unarV (t:List UInt8):List UInt8 × List UInt8 × Int:=match candA t with
 | none => ([],[],5)
 | some (name,body) => if armV name (bytesA body) = (t,0) then (name,bytesA body,0) else ([],[],5)
theorem cand_arm {name b:List UInt8} (h:nameOk name = true):candA (armorL name b) = some (name,bodyL (linesL (baseL b))):=by
 have e:armorL name b = begL ++ (name ++ (dshL ++ (bodyL (linesL (baseL b)) ++ (endL ++ name ++ dshL)))):=by
   unfold armorL
   simp only [List.append_assoc]
 unfold candA
 rw [if_pos (by rw [e]; exact List.isPrefixOf_iff_prefix.2 (List.prefix_append _ _))]
 have h1:(armorL name b).drop 11 = name ++ (dshL ++ (bodyL (linesL (baseL b)) ++ (endL ++ name ++ dshL))):=by
   rw [e]
   exact List.drop_left (l₁:=begL)
 rw [h1,cut_name _ _ (ok_free h)]
 dsimp only
 rw [if_pos (List.isSuffixOf_iff_suffix.2 (List.suffix_append _ _)),List.length_append,Nat.add_sub_cancel,List.take_left]
theorem arm_ok {name b:List UInt8} (h:(armV name b).2 = 0):nameOk name = true /\ armV name b = (armorL name b,0):=by
 unfold armV at h ⊢
 cases h1:nameOk name with
 | false => rw [h1,if_pos rfl] at h; exact absurd (show (1:Int) = 0 from h) (by decide)
 | true =>
   rw [h1] at h
   by_cases h2:b = []
   · rw [if_neg (by decide),if_pos h2] at h; exact absurd h (by decide)
   · by_cases h3:65552 < b.length
     · rw [if_neg (by decide),if_neg h2,if_pos h3] at h; exact absurd h (by decide)
     · rw [if_neg (by decide),if_neg h2,if_neg h3]
       exact ⟨rfl,rfl⟩
theorem unar_arm {name b:List UInt8} (h:(armV name b).2 = 0):unarV (armV name b).1 = (name,b,0):=by
 obtain ⟨h1,h2⟩:=arm_ok h
 rw [h2]
 show unarV (armorL name b) = _
 unfold unarV
 rw [cand_arm h1]
 have h3:bytesA (bodyL (linesL (baseL b))) = b:=by
   unfold bytesA
   rw [body_base,unb_base]
 dsimp only
 rw [h3,if_pos h2]
theorem unar_ok {t:List UInt8} (h:(unarV t).2.2 = 0):armV (unarV t).1 (unarV t).2.1 = (t,0):=by
 unfold unarV at h ⊢
 cases hc:candA t with
 | none => rw [hc] at h; exact absurd (show (5:Int) = 0 from h) (by decide)
 | some p =>
   obtain ⟨name,body⟩:=p
   rw [hc] at h
   dsimp only at h ⊢
   by_cases h1:armV name (bytesA body) = (t,0)
   · rw [if_pos h1]; exact h1
   · rw [if_neg h1] at h; exact absurd (show (5:Int) = 0 from h) (by decide)
theorem unar_no {t:List UInt8} (h:(unarV t).2.2 ≠ 0):unarV t = ([],[],5):=by
 unfold unarV at h ⊢
 cases hc:candA t with
 | none => rfl
 | some p =>
   obtain ⟨name,body⟩:=p
   rw [hc] at h
   dsimp only at h ⊢
   by_cases h1:armV name (bytesA body) = (t,0)
   · rw [if_pos h1] at h; exact absurd rfl h
   · rw [if_neg h1]
end Pm
end Go.Proofs.YtagmgldibjjeeaaDoor
namespace Go.Proofs.YtagmgldibjjeeaaDoor
namespace Sp
def joinC (c:UInt8):List (List UInt8) -> List UInt8
 | [] => []
 | [w] => w
 | w :: v :: ws => w ++ c :: joinC c (v :: ws)
def pcs (c:UInt8):List UInt8 -> List (List UInt8)
 | [] => [[]]
 | x :: s => if x = c then [] :: pcs c s else match pcs c s with
   | [] => [[x]]
   | w :: ws => (x :: w) :: ws
theorem pcs_ne (c:UInt8) (s:List UInt8):pcs c s ≠ []:=by
 cases s with
 | nil => exact List.cons_ne_nil _ _
 | cons x s =>
   unfold pcs
   split
   · exact List.cons_ne_nil _ _
   · split <;> exact List.cons_ne_nil _ _
theorem pcs_hit (c:UInt8) (s:List UInt8):pcs c (c :: s) = [] :: pcs c s:=by
 rw [pcs,if_pos rfl]
theorem pcs_app (c:UInt8) (w:List UInt8) (h:c ∉ w) (s:List UInt8):∃ v vs,pcs c s = v :: vs /\ pcs c (w ++ s) = (w ++ v) :: vs:=by
 obtain ⟨v,vs,hv⟩:∃ v vs,pcs c s = v :: vs:=by
   cases hp:pcs c s with
   | nil => exact absurd hp (pcs_ne c s)
   | cons v vs => exact ⟨v,vs,rfl⟩
 refine ⟨v,vs,hv, ?_⟩
 induction w with
 | nil => exact hv
 | cons x w ih =>
   have h1:=ih (fun h9 => h (List.mem_cons_of_mem _ h9))
   rw [List.cons_append,pcs,if_neg (fun h9 => h (by rw [h9]; exact List.mem_cons_self ..)),h1]
   rfl
theorem pcs_cut (c:UInt8) (w s:List UInt8) (h:c ∉ w):pcs c (w ++ c :: s) = w :: pcs c s:=by
 obtain ⟨v,vs,h1,h2⟩:=pcs_app c w h (c :: s)
 rw [pcs_hit] at h1
 cases h1
 rw [h2,List.append_nil]
end Sp
end Go.Proofs.YtagmgldibjjeeaaDoor
