import Derived.Test.YtddlaafpianjbaaGreatDoorBo7
import Derived.Deep.WholeRow
set_option maxRecDepth 100000
namespace Go.Proofs.YtddlaafpianjbaaGreatDoor
open Go.RowKit
namespace Sbox
attribute [local irreducible] Gf.mul Gf.inv Gf.pow Gf.logN Gf.logB Gf.xt turn mixK mix sub back backIn
def zs:Array Value:=Array.replicate 256 (.int .u8 0)
theorem zero41 (w:World):(zeroValue 163).run Tryz.prog w = .ok (.agg zs) w:=by kernel_rfl
theorem zs_ne:(zs = #[]) = False:=by simp [zs]
theorem zs_size:zs.size = 256:=by simp [zs]
theorem zs_at (i:Nat) (h:i < 256):zs[i]? = some (.int .u8 0):=by simp [zs,h]
theorem zs_one (v:Int):(zs.setIfInBounds 0 (.int .u8 v)).all (·.oneCell') = true:=by
 rw [Array.all_eq_true]
 intro i hi
 rw [Array.getElem_setIfInBounds (by simpa using hi)]
 split
 · rfl
 · have h9:∀ x ∈ zs,x = .int .u8 0:=fun x hx => by unfold zs at hx; exact (Array.mem_replicate.1 hx).2
   rw [h9 _ (Array.getElem_mem _)]; rfl
attribute [local irreducible] zs
theorem store41 (W:World) (v:Int):(storeCells ⟨W.heap.size,0,none⟩ (zs.toList.set 0 (.int .u8 v))).run Tryz.prog (W.alloc (.cells zs 163)) = .ok () (W.alloc (.cells (zs.setIfInBounds 0 (.int .u8 v)) 163)):=by
 have hi:(Tryz.prog.info? 163).map (·.size) = some 256:=by kernel_rfl
 have h:=run_storeCells_new (P:=Tryz.prog) W 163 zs (zs.setIfInBounds 0 (.int .u8 v)) (by rw [Array.size_setIfInBounds,zs_size]; exact hi) (by rw [Array.size_setIfInBounds]) (zs_one v)
 rwa [Array.toList_setIfInBounds] at h
def tabF (k j:Nat):Value:=if j = 0 ∨ (Gf.logB j = true /\ Gf.logN j < k) then .int .u8 ((sub j:Nat):Int) else .int .u8 0
theorem sub_mix (a:Nat):sub a = mix (Gf.inv a):=by unfold sub; rfl
theorem slice41 (b:Nat) (w:World):(Instr.sliceAt 163 (.pointer (some ⟨b,0,none⟩)) none none none).run Tryz.prog w = .ok (.slice (some ⟨b,0,none⟩) 256 256) w:=by kernel_rfl
theorem mul_rdr (a b:Nat) (ha:a <= 255) (hb:b <= 255):Rdr 241 #[.int .u8 (a:Int),.int .u8 (b:Int)] (.int .u8 ((Gf.mul a b:Nat):Int)):=Rdr.of_ret fun w => by
 have h:=Field.mul_any a b w (by omega) (by omega) (by omega) (by omega)
 rwa [Int.toNat_natCast,Int.toNat_natCast] at h
theorem rdr_row {w w':World} {q b t n:Nat} {f:Nat -> Value} (h:w.rowIs b t n f) (hq:w' = w.drewN q):w'.rowIs b t n f:=by subst hq; exact h
theorem rdr_since {w0 w w':World} {q:Nat} (h:Since w0 w) (hq:w' = w.drewN q):Since w0 w':=by subst hq; exact h.step ⟨rfl,rfl,rfl,Nat.le_refl _,fun _ _ => rfl⟩
set_option maxHeartbeats 1000000 in
theorem table_any (w:World):Calls Tryz.prog 218 #[] w fun e w' => e = .returned (.string (strOfNums ((List.range 256).map fun j => ((sub j:Nat):Int)))) /\ Since w w':=by
 have H0:=lH (Since.refl w)
 have hz:=zero41
 have hne:=zs_ne
 have hsz:=zs_size
 have hst:=fun W => store41 W ((sub 0:Nat):Int)
 go_enter Tryz.func218,Tryz.ntmps218
 go_wp2_with fail
 refine (sub_rdr 0 (by omega)).mak.calls H0.out ?_
 intro w1 h1
 have H1:=lH h1
 clear h1
 go_wp2_with fail
 have hrow:(w1.alloc (.cells (zs.setIfInBounds 0 (.int .u8 ((sub 0:Nat):Int))) 163)).rowIs w1.heap.size 163 256 (tabF 0):=by
   have h:=World.rowIs_alloc w1 (zs.setIfInBounds 0 (.int .u8 ((sub 0:Nat):Int))) 163 (tabF 0) (fun i hi => by
     rw [Array.size_setIfInBounds,zs_size] at hi
     rw [Array.getElem?_setIfInBounds]
     by_cases h0:i = 0
     · subst h0; rw [if_pos rfl,if_pos (by rw [zs_size]; omega)]; unfold tabF; rw [if_pos (Or.inl rfl)]
     · rw [if_neg (fun h => h0 h.symm),zs_at i hi]; unfold tabF; rw [if_neg (by omega)])
   rwa [Array.size_setIfInBounds,zs_size] at h
 have HR0:=lH hrow
 clear hrow hz hne hsz hst
 obtain ⟨B,hB⟩:∃ B,B = w1.heap.size:=⟨_,rfl⟩
 have hBw:w.heap.size <= B:=by rw [hB]; exact Below.size H1.out
 rw [<- hB] at HR0
 have HB:=lH hB
 have hcall:=inv_rdr 3 (by omega)
 refine (hcall _).mono ?_
 rintro e w2 ⟨rfl,q,hq⟩
 have HR1:=lH (rdr_row HR0.out hq)
 have HS1:=lH (rdr_since (H1.out.alloc _) hq)
 clear hq hcall
 rw [<- hB]
 clear hB
 have hi3:=Gf.inv_lt 3
 obtain ⟨V,hV⟩:∃ V,V = Gf.inv 3:=⟨_,rfl⟩
 rw [<- hV]
 rw [<- hV] at hi3
 have HV:=lH hV
 clear hV
 go_wp2_with fail
 go_loopw [3,4,8] (fun p i n wr => ∃ k:Nat,k <= 255 /\ n = .int .i64 (k:Int) /\ p = .int .u8 ((Gf.ipw 3 k:Nat):Int) /\ i = .int .u8 ((Gf.ipw V k:Nat):Int) /\ Hid (wr.rowIs B 163 256 (tabF k)) /\ Hid (Since w wr)) (fun _ _ n _ => 255 - (intOf n).toNat)
 case atStart => exact ⟨0,by omega,rfl,rfl,rfl,HR1,HS1⟩
 case round =>
   obtain ⟨k,hk,rfl,rfl,rfl,HR,HS⟩:=hrel
   have hp:=Gf.ipw_lt 3 k
   have hv:=Gf.ipw_lt V k
   by_cases hlt:k < 255
   · obtain ⟨t1,t2,t3,t4⟩:=tab_at k hlt
     rw [<- HV.out] at t4
     have hs3:Gf.ipw 3 (k + 1) = Gf.mul (Gf.ipw 3 k) 3:=by with_unfolding_all rfl
     have hsv:Gf.ipw V (k + 1) = Gf.mul (Gf.ipw V k) V:=by with_unfolding_all rfl
     have hsub:=sub_mix (Gf.ipw 3 k)
     rw [<- t4] at hsub
     obtain ⟨p,hpe⟩:∃ p,p = Gf.ipw 3 k:=⟨_,rfl⟩
     obtain ⟨v,hve⟩:∃ v,v = Gf.ipw V k:=⟨_,rfl⟩
     rw [<- hpe] at t1 t2 t3 hs3 hsub hp
     rw [<- hve] at hsv hsub hv
     rw [<- hpe,<- hve]
     have HP:=lH (And.intro t1 (And.intro t2 (And.intro hs3 (And.intro hsv (And.intro hsub (And.intro hpe hve))))))
     clear t1 t2 t3 t4 hs3 hsv hsub hpe hve
     have c1:=mixed_rdr v (by omega)
     have c2:=mul_rdr p 3 (by omega) (by omega)
     have c3:=mul_rdr v V (by omega) (by omega)
     go_wp2_with fail
     refine (c1 _).mono ?_
     rintro e w3 ⟨rfl,q3,hq3⟩
     have HR3:=lH (rdr_row HR.out hq3)
     have HS3:=lH (rdr_since HS.out hq3)
     clear hq3
     have hc:=HR3.out.cell (i:=p) hp
     have hf:=HR3.out.frozen p
     have HC:=lH hc
     go_wp2_with fail
     have HR4:=lH (HR3.out.set p (.int .u8 ((mix v:Nat):Int)))
     have HS4:=lH (show Since w (w3.setCell ⟨B,p,none⟩ (.int .u8 ((mix v:Nat):Int))) from Below.setCell HS3.out (p:=⟨B,p,none⟩) hBw _)
     refine (c2 _).mono ?_
     rintro e w5 ⟨rfl,q5,hq5⟩
     have HR5:=lH (rdr_row HR4.out hq5)
     have HS5:=lH (rdr_since HS4.out hq5)
     clear hq5
     go_wp2_with fail
     refine (c3 _).mono ?_
     rintro e w6 ⟨rfl,q6,hq6⟩
     have HR6:=lH (rdr_row HR5.out hq6)
     have HS6:=lH (rdr_since HS5.out hq6)
     clear hq6
     go_wp2_with fail
     go_roundw
     case rel =>
       obtain ⟨t1,t2,hs3,hsv,hsub,hpe,hve⟩:=HP.out
       refine ⟨k + 1,by omega,by go_num,by rw [hs3],by rw [hsv],lH (HR6.out.congr fun j hj => ?_),HS6⟩
       unfold tabF
       by_cases hjp:j = p
       · subst hjp
         rw [if_pos rfl,if_pos (Or.inr ⟨t2,by omega⟩),hsub]
       · rw [if_neg hjp]
         by_cases h0:j = 0
         · rw [if_pos (Or.inl h0),if_pos (Or.inl h0)]
         · by_cases hl:Gf.logN j < k
           · by_cases hb:Gf.logB j = true
             · rw [if_pos (Or.inr ⟨hb,hl⟩),if_pos (Or.inr ⟨hb,by omega⟩)]
             · rw [if_neg (fun h => h.elim h0 (fun h => hb h.1)),if_neg (fun h => h.elim h0 (fun h => hb h.1))]
           · have hn:¬ Gf.logN j < k + 1:=fun h => by
               obtain ⟨_,_,l3⟩:=log_ipw j hj h0
               exact hjp (by rw [<- l3,show Gf.logN j = k from by omega]; exact hpe.symm)
             rw [if_neg (fun h => h.elim h0 (fun h => hl h.2)),if_neg (fun h => h.elim h0 (fun h => hn h.2))]
     case measure => simp [intOf]; omega
   · obtain rfl:k = 255:=by omega
     have hsl:=slice41 B
     have g:=run_convert_bytes_arg (P:=Tryz.prog) wr 114 5 Tryz.underlying114 Tryz.underlying5 B 0 256 256 ((List.range 256).map fun j => ((sub j:Nat):Int)) (by simp) (fun i hi => by
       rw [Nat.zero_add,HR.out.cell hi]
       have h9:tabF 255 i = .int .u8 ((sub i:Nat):Int):=by
         unfold tabF
         by_cases h0:i = 0
         · rw [if_pos (Or.inl h0)]
         · obtain ⟨l1,l2,_⟩:=log_ipw i hi h0
           rw [if_pos (Or.inr ⟨l1,l2⟩)]
       rw [h9]; simp [List.getD,hi]) 9 Tryz.underlying9
     obtain ⟨S,hS⟩:∃ S,S = strOfNums ((List.range 256).map fun j => ((sub j:Nat):Int)):=⟨_,rfl⟩
     rw [<- hS] at g
     have HSS:=lH hS
     clear hS
     go_wp2_with fail
     go_ret
     rw [<- HSS.out]
     exact ⟨rfl,HS.out⟩
end Sbox
namespace Sbox
attribute [local irreducible] Gf.mul Gf.inv Gf.pow Gf.logN Gf.logB Gf.xt turn mixK mix sub back backIn
theorem info5:(Tryz.prog.info? 5).map (fun i => (i.zero,i.size,i.bytes)) = some (some (Value.int IntKind.u8 0),1,1):=by kernel_rfl
def fs:Array Value:=Array.replicate 256 (.bool false)
theorem zero44 (w:World):(zeroValue 188).run Tryz.prog w = .ok (.agg fs) w:=by kernel_rfl
theorem fs_size:fs.size = 256:=by simp [fs]
theorem fs_at (i:Nat) (h:i < 256):fs[i]? = some (.bool false):=by simp [fs,h]
attribute [local irreducible] fs zs
set_option maxHeartbeats 2000000 in
theorem each_sub (s:ByteArray) (w:World) (hm:s.size <= 140737488355328):Calls Tryz.prog 263 #[.string s,.func (.func 238) #[] #[]] w fun e w' => e = .returned (.string (strOfNums (s.data.toList.map fun c => ((sub c.toNat:Nat):Int)))) /\ Since w w':=by
 have hmk:∀ w:World,(Instr.makeSlice 114 (.int .i64 (s.size:Int)) (.int .i64 (s.size:Int))).run Tryz.prog w = .ok (.slice (some ⟨w.heap.size,0,none⟩) s.size s.size) (w.alloc (.cells (madeCells #[.int .u8 0] s.size) 5)):=fun w =>
   run_make_row' (P:=Tryz.prog) 114 5 (.int .u8 0) 1 Tryz.underlying114 info5 rfl .i64 .i64 s.size (by omega) (by omega) w
 have hz1:=zero41
 have hz2:=zero44
 go_enter Tryz.func263,Tryz.ntmps263
 go_wp2_with fail
 clear hmk hz1 hz2
 go_loopw [15] (fun i wr => ∃ k:Nat,k <= s.size /\ i = .int .i64 (k:Int) /\ ∃ f1 f2:Nat -> Value,Hid (wr.rowIs w.heap.size 163 256 f1) /\ Hid (wr.rowIs (w.heap.size + 1) 188 256 f2) /\
     Hid (wr.rowIs (w.heap.size + 1 + 1) 5 s.size (fun j => if j < k then .int .u8 ((sub (s.data.toList.getD j 0).toNat:Nat):Int) else .int .u8 0)) /\
     Hid (∀ c,c < 256 -> f2 c = .bool false ∨ (f2 c = .bool true /\ f1 c = .int .u8 ((sub c:Nat):Int))) /\ Hid (Since w wr)) (fun i _ => s.size - (intOf i).toNat)
 case atStart =>
   have r1:(w.alloc (.cells zs 163)).rowIs w.heap.size 163 256 (fun _ => .int .u8 0):=by
     have h:=World.rowIs_alloc w zs 163 (fun _ => .int .u8 0) (fun i hi => zs_at i (by rw [zs_size] at hi; exact hi))
     rwa [zs_size] at h
   have r2:((w.alloc (.cells zs 163)).alloc (.cells fs 188)).rowIs (w.heap.size + 1) 188 256 (fun _ => .bool false):=by
     have h:=World.rowIs_alloc (w.alloc (.cells zs 163)) fs 188 (fun _ => .bool false) (fun i hi => fs_at i (by rw [fs_size] at hi; exact hi))
     rw [fs_size] at h
     simpa using h
   refine ⟨0,by omega,rfl,_,_,lH ((r1.alloc _).alloc _),lH (r2.alloc _),lH ?_,lH (fun c _ => Or.inl rfl),lH (((Since.refl w).alloc _).alloc _ |>.alloc _)⟩
   have r3:=World.rowIs_made ((w.alloc (.cells zs 163)).alloc (.cells fs 188)) (.int .u8 0) s.size 5
   have r4:=r3.congr (g:=fun j => if j < 0 then .int .u8 ((sub (s.data.toList.getD j 0).toNat:Nat):Int) else .int .u8 0) (fun j _ => by simp)
   simpa using r4
 case round =>
   obtain ⟨k,hk,rfl,f1,f2,HR1,HR2,HR3,HK,HS⟩:=hrel
   by_cases hlt:k < s.size
   · obtain ⟨c,hc⟩:∃ c,c = s[k].toNat:=⟨_,rfl⟩
     have hc256:c < 256:=by rw [hc]; exact s[k].toNat_lt
     have hgd:(s.data.toList.getD k 0).toNat = c:=by
       rw [hc]; congr 1; simp [List.getD,List.getElem?_eq_getElem (show k < s.data.toList.length from hlt)]; rfl
     have hc':s[k].toNat = c:=hc.symm
     clear hc
     have HGD:=lH hgd
     clear hgd
     have hl2:=HR2.out.cell (i:=c) hc256
     have hz2:=HR2.out.frozen c
     rcases HK.out c hc256 with hf | ⟨hf,hg⟩
     · rw [hf] at hl2
       clear hf
       go_wp2_with fail
       refine (sub_rdr c (by omega) _).mono ?_
       rintro e w3 ⟨rfl,q,hq⟩
       have R1:=rdr_row HR1.out hq
       have R2:=rdr_row HR2.out hq
       have R3:=rdr_row HR3.out hq
       have S3:=rdr_since HS.out hq
       have ca1:=R1.cell (i:=c) hc256
       have fa1:=R1.frozen c
       have Q1:=R1.set c (.int .u8 ((sub c:Nat):Int))
       have Q2:=R2.setOther (a:=⟨w.heap.size,c,none⟩) (by simp) (.int .u8 ((sub c:Nat):Int))
       have Q3:=R3.setOther (a:=⟨w.heap.size,c,none⟩) (by simp; omega) (.int .u8 ((sub c:Nat):Int))
       have ca2:=Q2.cell (i:=c) hc256
       have fa2:=Q2.frozen c
       have P1:=Q1.setOther (a:=⟨w.heap.size + 1,c,none⟩) (by simp) (.bool true)
       have P2:=Q2.set c (.bool true)
       have P3:=Q3.setOther (a:=⟨w.heap.size + 1,c,none⟩) (by simp) (.bool true)
       have ca3:=P1.cell (i:=c) hc256
       rw [if_pos rfl] at ca3
       have ca4:=P3.cell (i:=k) hlt
       have fa4:=P3.frozen k
       have HP1:=lH P1
       have HP2:=lH P2
       have HP3:=lH P3
       have HS3:=lH S3
       clear P1 P2 P3 Q1 Q2 Q3 R1 R2 R3 S3 hq
       have HCF:=lH (show Since w ((w3.setCell ⟨w.heap.size,c,none⟩ (.int .u8 ((sub c:Nat):Int))).setCell ⟨w.heap.size + 1,c,none⟩ (.bool true)) from
         Below.setCell (Below.setCell HS3.out (p:=⟨w.heap.size,c,none⟩) (Nat.le_refl _) _) (p:=⟨w.heap.size + 1,c,none⟩) (by simp) _)
       go_wp2_with fail
       go_roundw
       case rel =>
         refine ⟨k + 1,by omega,by go_num,_,_,lH (HP1.out.setOther (a:=⟨w.heap.size + 1 + 1,k,none⟩) (by simp; omega) _),lH (HP2.out.setOther (a:=⟨w.heap.size + 1 + 1,k,none⟩) (by simp) _),lH ((HP3.out.set k _).congr fun j hj => ?_),lH (fun d hd => ?_),lH (Below.setCell HCF.out (p:=⟨w.heap.size + 1 + 1,k,none⟩) (by simp; omega) _)⟩
         · by_cases h1:j = k
           · subst h1; rw [if_pos rfl,if_pos (by omega),HGD.out]
           · by_cases h2:j < k
             · simp [h1,h2,show j < k + 1 from by omega]
             · simp [h1,h2,show ¬ j < k + 1 from by omega]
         · by_cases hd2:d = c
           · subst hd2; right; simp
           · rcases HK.out d hd with h | ⟨h,h'⟩
             · left; simp [hd2,h]
             · right; simp [hd2,h,h']
       case measure => simp [intOf]; omega
     · rw [hf] at hl2
       have hl1:=HR1.out.cell (i:=c) hc256
       rw [hg] at hl1
       have ca4:=HR3.out.cell (i:=k) hlt
       have fa4:=HR3.out.frozen k
       clear hf hg
       go_wp2_with fail
       go_roundw
       case rel =>
         refine ⟨k + 1,by omega,by go_num,f1,f2,lH (HR1.out.setOther (a:=⟨w.heap.size + 1 + 1,k,none⟩) (by simp; omega) _),lH (HR2.out.setOther (a:=⟨w.heap.size + 1 + 1,k,none⟩) (by simp) _),lH ((HR3.out.set k _).congr fun j hj => ?_),HK,lH (Below.setCell HS.out (p:=⟨w.heap.size + 1 + 1,k,none⟩) (by simp; omega) _)⟩
         by_cases h1:j = k
         · subst h1; rw [if_pos rfl,if_pos (by omega),HGD.out]
         · by_cases h2:j < k
           · simp [h1,h2,show j < k + 1 from by omega]
           · simp [h1,h2,show ¬ j < k + 1 from by omega]
       case measure => simp [intOf]; omega
   · obtain rfl:k = s.size:=by omega
     have g:=run_convert_bytes_arg (P:=Tryz.prog) wr 114 5 Tryz.underlying114 Tryz.underlying5 (w.heap.size + 1 + 1) 0 s.size s.size (s.data.toList.map fun c => ((sub c.toNat:Nat):Int)) (by simp) (fun i hi => by
       rw [Nat.zero_add,HR3.out.cell hi,if_pos hi]; simp [List.getD,List.getElem?_eq_getElem (show i < s.data.toList.length from hi)]) 9 Tryz.underlying9
     go_wp2_with fail
     go_ret
     exact ⟨rfl,HS.out⟩
theorem subs_mak (s:ByteArray) (hm:s.size <= 140737488355328):Mak 256 #[.string s] (.string (strOfNums (s.data.toList.map fun c => ((sub c.toNat:Nat):Int)))):=by
 intro w
 have hc:=each_sub s w hm
 generalize strOfNums (s.data.toList.map fun c => ((sub c.toNat:Nat):Int)) = x at hc
 have HC:=lH hc
 clear hc
 go_enter Tryz.func256,Tryz.ntmps256
 go_wp2_with fail
 refine HC.out.mono ?_
 rintro e w1 ⟨rfl,h1⟩
 have H1:=lH h1
 clear h1
 go_wp2_with fail
 go_ret
 exact ⟨rfl,H1.out⟩
end Sbox
namespace RefSbox
open Sbox (Rdr sub back sub_lt back_lt)
theorem nums_snoc (xs:List Int) (x:Int):strOfNums xs ++ strOfNums [x] = strOfNums (xs ++ [x]):=by
 apply ba_ext
 rw [app_list,nums_list,nums_list,nums_list,List.map_append]
set_option maxHeartbeats 2000000 in
theorem subs_mak (s:ByteArray) (hm:s.size <= 1000000):Mak 220 #[.string s] (.string (strOfNums (s.data.toList.map fun c => ((sub c.toNat:Nat):Int)))):=by
 intro w
 obtain ⟨X,hX⟩:∃ X,X = strOfNums (s.data.toList.map fun c => ((sub c.toNat:Nat):Int)):=⟨_,rfl⟩
 rw [<- hX]
 have HX:=lH hX
 clear hX
 go_enter Tryz.func220,Tryz.ntmps220
 go_wp2_with fail
 go_loopw [3,4] (fun o i wr => ∃ (k:Nat) (S:ByteArray),k <= s.size /\ i = .int .i64 (k:Int) /\ o = .string S /\ S.size = k /\ Hid (S = strOfNums ((s.data.toList.take k).map fun c => ((sub c.toNat:Nat):Int))) /\ Hid (Since w wr)) (fun _ i _ => s.size - (intOf i).toNat)
 case atStart => exact ⟨0,⟨#[]⟩,Nat.zero_le _,rfl,rfl,rfl,lH rfl,lH (Since.refl w)⟩
 case round =>
   obtain ⟨k,S,hk,rfl,rfl,hS,HSS,HS⟩:=hrel
   by_cases hlt:k < s.size
   · have hc:=s[k].toNat_lt
     have c1:=(sub_rdr s[k].toNat (by omega)).mak
     have hv:=sub_lt s[k].toNat
     have htk:(s.data.toList.take (k + 1)).map (fun c => ((sub c.toNat:Nat):Int)) = (s.data.toList.take k).map (fun c => ((sub c.toNat:Nat):Int)) ++ [((sub s[k].toNat:Nat):Int)]:=by
       rw [List.take_succ_eq_append_getElem (show k < s.data.toList.length from hlt),List.map_append]; rfl
     generalize sub s[k].toNat = v at *
     have HT:=lH htk
     clear htk
     have hsz:¬ 9223372036854775807 < S.size + (strOfNums [(v:Int)]).size:=by rw [strOfNums_size]; simp; omega
     go_wp2_with fail
     refine (c1).calls HS.out ?_
     intro w1 h1
     have H1:=lH h1
     clear h1
     have g:=conv_lit w1 w1.heap.size rfl [(v:Int)] 1 rfl #[.int .u8 (v:Int)] rfl
     go_wp2_with fail
     go_roundw
     case rel =>
       refine ⟨k + 1,_,by omega,by go_num,rfl, ?_,lH ?_,lH (H1.out.alloc _)⟩
       · have h8:=congrArg List.length (app_list S (strOfNums [(v:Int)]))
         rw [List.length_append] at h8
         have h9:(S ++ strOfNums [(v:Int)]).size = (S ++ strOfNums [(v:Int)]).data.toList.length:=rfl
         rw [h9,h8]
         show S.size + 1 = k + 1
         omega
       · rw [HT.out,HSS.out,nums_snoc]
     case measure => simp [intOf]; omega
   · have hXS:X = S:=by rw [HX.out,HSS.out,List.take_of_length_le (show s.data.toList.length <= k by have h9:s.size = s.data.toList.length:=rfl; omega)]
     subst hXS
     go_wp2_with fail
     go_ret
     exact ⟨rfl,HS.out⟩
set_option maxHeartbeats 2000000 in
theorem backs_mak (s:ByteArray) (hm:s.size <= 1000000):Mak 226 #[.string s] (.string (strOfNums (s.data.toList.map fun c => ((back c.toNat:Nat):Int)))):=by
 intro w
 obtain ⟨X,hX⟩:∃ X,X = strOfNums (s.data.toList.map fun c => ((back c.toNat:Nat):Int)):=⟨_,rfl⟩
 rw [<- hX]
 have HX:=lH hX
 clear hX
 go_enter Tryz.func226,Tryz.ntmps226
 go_wp2_with fail
 go_loopw [3,4] (fun o i wr => ∃ (k:Nat) (S:ByteArray),k <= s.size /\ i = .int .i64 (k:Int) /\ o = .string S /\ S.size = k /\ Hid (S = strOfNums ((s.data.toList.take k).map fun c => ((back c.toNat:Nat):Int))) /\ Hid (Since w wr)) (fun _ i _ => s.size - (intOf i).toNat)
 case atStart => exact ⟨0,⟨#[]⟩,Nat.zero_le _,rfl,rfl,rfl,lH rfl,lH (Since.refl w)⟩
 case round =>
   obtain ⟨k,S,hk,rfl,rfl,hS,HSS,HS⟩:=hrel
   by_cases hlt:k < s.size
   · have hc:=s[k].toNat_lt
     have c1:=(back_rdr s[k].toNat (by omega)).mak
     have hv:=back_lt s[k].toNat
     have htk:(s.data.toList.take (k + 1)).map (fun c => ((back c.toNat:Nat):Int)) = (s.data.toList.take k).map (fun c => ((back c.toNat:Nat):Int)) ++ [((back s[k].toNat:Nat):Int)]:=by
       rw [List.take_succ_eq_append_getElem (show k < s.data.toList.length from hlt),List.map_append]; rfl
     generalize back s[k].toNat = v at *
     have HT:=lH htk
     clear htk
     have hsz:¬ 9223372036854775807 < S.size + (strOfNums [(v:Int)]).size:=by rw [strOfNums_size]; simp; omega
     go_wp2_with fail
     refine (c1).calls HS.out ?_
     intro w1 h1
     have H1:=lH h1
     clear h1
     have g:=conv_lit w1 w1.heap.size rfl [(v:Int)] 1 rfl #[.int .u8 (v:Int)] rfl
     go_wp2_with fail
     go_roundw
     case rel =>
       refine ⟨k + 1,_,by omega,by go_num,rfl, ?_,lH ?_,lH (H1.out.alloc _)⟩
       · have h8:=congrArg List.length (app_list S (strOfNums [(v:Int)]))
         rw [List.length_append] at h8
         have h9:(S ++ strOfNums [(v:Int)]).size = (S ++ strOfNums [(v:Int)]).data.toList.length:=rfl
         rw [h9,h8]
         show S.size + 1 = k + 1
         omega
       · rw [HT.out,HSS.out,nums_snoc]
     case measure => simp [intOf]; omega
   · have hXS:X = S:=by rw [HX.out,HSS.out,List.take_of_length_le (show s.data.toList.length <= k by have h9:s.size = s.data.toList.length:=rfl; omega)]
     subst hXS
     go_wp2_with fail
     go_ret
     exact ⟨rfl,HS.out⟩
end RefSbox
end Go.Proofs.YtddlaafpianjbaaGreatDoor
