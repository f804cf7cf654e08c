import Derived.Test.YtagmgldibjjeeaaDoorPt13
import Derived.Test.YtagmgldibjjeeaaDoorPt11
import Derived.Test.YtagmgldibjjeeaaDoorPt5
import Derived.Deep.CutRange
set_option maxRecDepth 100000
namespace Go.Proofs.YtagmgldibjjeeaaDoor
open Go.RowKit
namespace Pm
theorem w62 (n:Int) (h0:0 <= n) (h1:n < 2 ^ 62):IntKind.i64.wrap n = n:=IntWalk.i64_in _ (by omega)
theorem or16 (a b:Nat) (ha:a < 256) (hb:b < 256):bits .or .i64 ((a:Int) * 65536) ((b:Int) * 256) = (a:Int) * 65536 + (b:Int) * 256 :=
 bits_join .i64 62 (by decide) w62 16 _ _ (by omega) (by omega) (by omega) (by omega) (by omega) (by omega)
theorem or8 (a b c:Nat) (ha:a < 256) (hb:b < 256) (hc:c < 256):bits .or .i64 ((a:Int) * 65536 + (b:Int) * 256) (c:Int) = (a:Int) * 65536 + (b:Int) * 256 + (c:Int) :=
 bits_join .i64 62 (by decide) w62 8 _ _ (by omega) (by omega) (by omega) (by omega) (by omega) (by omega)
theorem and63 (x:Nat) (h:x < 2 ^ 62):bits .and .i64 (x:Int) 63 = ((x % 64:Nat):Int):=by
 have h1:=bits_mask .i64 62 (by decide) w62 6 (by decide) (x:Int) (by omega) (by omega)
 rw [show ((2:Int) ^ 6 - 1) = 63 by decide,show ((2:Int) ^ 6) = 64 by decide] at h1
 rw [h1]
 omega
def alph:ByteArray:=⟨#[65,66,67,68,69,70,71,72,73,74,75,76,77,78,79,80,81,82,83,84,85,86,87,88,89,90,97,98,99,100,101,102,103,104,105,106,107,108,109,110,111,112,113,114,115,116,117,118,119,120,121,122,48,49,50,51,52,53,54,55,56,57,43,47]⟩
theorem alph_list:alph.data.toList = (List.range 64).map sg:=by decide +kernel
theorem alph_at (d:Nat) (h:d < alph.size):alph[d] = sg d:=by
 have h1:alph.data.toList[d]? = some (alph[d]):=by
   rw [List.getElem?_eq_getElem (by simpa using h)]
   rfl
 rw [alph_list,List.getElem?_map,List.getElem?_range (show d < 64 from h)] at h1
 exact (Option.some.inj h1).symm
def grpL (l:List UInt8) (p:Nat):List UInt8:=four (num3 (l.getD p 0) (l.getD (p + 1) 0) (l.getD (p + 2) 0)) (min (l.length - p) 3)
theorem base_app:∀ (k:Nat) (a b:List UInt8),a.length = 3 * k -> baseL (a ++ b) = baseL a ++ baseL b
 | 0,a,b,h => by rw [List.length_eq_zero_iff.1 h]; rfl
 | k + 1,[],_,h => by simp at h
 | k + 1,[_],_,h => by simp at h; omega
 | k + 1,[_,_],_,h => by simp at h; omega
 | k + 1,x :: y :: z :: a,b,h => by
   show baseL (x :: y :: z :: (a ++ b)) = _
   rw [baseL,baseL,base_app k a b (by simp at h; omega),List.append_assoc]
theorem base_next (l:List UInt8) (k:Nat) (h:3 * k < l.length):baseL (l.take (3 * k + 3)) = baseL (l.take (3 * k)) ++ grpL l (3 * k):=by
 have h1:l.take (3 * k + 3) = l.take (3 * k) ++ (l.drop (3 * k)).take 3:=by rw [List.take_add]
 rw [h1,base_app k _ _ (by rw [List.length_take]; omega)]
 congr 1
 unfold grpL
 have g:∀ i,l.getD (3 * k + i) 0 = (l.drop (3 * k)).getD i 0:=fun i => by
   rw [List.getD_eq_getElem?_getD,List.getD_eq_getElem?_getD,List.getElem?_drop]
 have g0:=g 0
 rw [Nat.add_zero] at g0
 rw [g0,g 1,g 2,<- List.length_drop]
 have hn:l.drop (3 * k) ≠ []:=fun e => by
   have:=congrArg List.length e
   rw [List.length_drop] at this
   simp at this
   omega
 match l.drop (3 * k),hn with
 | [a],_ => rfl
 | [a,b],_ => rfl
 | a :: b :: c :: r,_ =>
   show baseL [a,b,c] = four (num3 a b c) (min (r.length + 1 + 1 + 1) 3)
   rw [Nat.min_eq_right (by omega),baseL]
   exact List.append_nil _
def BR (w W:World) (v:Value) (l:List UInt8):Prop:=Rw.Rows W w.heap.size (([]:List Rw.Row) ++ ⟨5,1,v,l.length,l.map fun b => Value.int .u8 b.toNat⟩ :: [])
theorem BR.since {w W W':World} {v:Value} {l:List UInt8} (h:BR w W v l) (hs:Since W W'):BR w W' v l:=Rw.Rows.since h hs
theorem BR.app {w W:World} {v:Value} {l:List UInt8} (c:UInt8) (h:Rw.Rows W w.heap.size (([]:List Rw.Row) ++ ⟨5,1,v,l.length + 1,(l.map fun b => Value.int .u8 b.toNat) ++ (#[.int .u8 (c.toNat:Int)]:Array Value).toList⟩ :: [])):BR w W v (l ++ [c]):=by
 unfold BR
 rw [List.length_append,List.map_append]
 exact h
theorem b_one (x:Int):∀ u ∈ (#[.int .u8 x]:Array Value).toList,u.oneCell' = true:=by
 intro u hu
 simp only [List.mem_cons,List.not_mem_nil,or_false] at hu
 subst hu
 rfl
theorem conv_br {w W:World} {v:Value} {l:List UInt8} (h:BR w W v l) (h0:0 < l.length):∀ dst,Tryd.prog.underlying dst = some .string -> (convert 32 dst v).run Tryd.prog W = .ok (.string (bs l)) W:=by
 have e:strOfNums (l.map fun b => ((b.toNat:Nat):Int)) = bs l:=by
   apply ba_ext
   rw [nums_list,List.map_map,list_bs]
   conv => rhs; rw [<- List.map_id l]
   apply List.map_congr_left
   intro b _
   simp
 rw [<- e]
 refine conv_own W w.heap.size v l.length _ ?_ h0
 rw [List.map_map]
 exact h.get
theorem conv_br0 {w W:World} {v:Value} (h:BR w W v []):∀ dst,Tryd.prog.underlying dst = some .string -> (convert 32 dst v).run Tryd.prog W = .ok (.string ⟨#[]⟩) W:=by
 rcases h.get.2 with ⟨h0,hn⟩ | ⟨g,cap,cur,h0,hb,hg,hn,hm,hsz,htk⟩
 · rw [show v = _ from h0]
   exact run_convert_bytes_nil W 32 5 Tryd.underlying32 Tryd.underlying5 _ _
 · rw [show v = _ from h0]
   exact run_convert_bytes_arg W 32 5 Tryd.underlying32 Tryd.underlying5 g 0 0 cap [] rfl (fun i hi => absurd hi (Nat.not_lt_zero _))
theorem conv_l {w W:World} {v:Value} {l:List UInt8} (h:BR w W v l):∀ dst,Tryd.prog.underlying dst = some .string -> (convert 32 dst v).run Tryd.prog W = .ok (.string (bs l)) W:=by
 cases l with
 | nil => exact conv_br0 h
 | cons c l => exact conv_br h (Nat.succ_pos _)
theorem run_copy3 (w:World) (b:Nat) (T ty:TypeId) (y:ByteArray) (h:w.heap[b]? = some (.cells #[.int .u8 0,.int .u8 0,.int .u8 0] T (0,0))) :
   ∃ w',(Builtin.copy_ #[32,9] ty #[.slice (some ⟨b,0,none⟩) 3 3,.string y]).run Tryd.prog w = .ok (.int .i64 ((min y.size 3:Nat):Int)) w' /\ w'.heap[b]? = some (.cells #[.int .u8 ((y.data.toList.getD 0 0).toNat:Int),.int .u8 ((y.data.toList.getD 1 0).toNat:Int),.int .u8 ((y.data.toList.getD 2 0).toNat:Int)] T (0,0)) /\ ∀ w0:World,w0.heap.size <= b -> Since w0 w -> Since w0 w':=by
 obtain ⟨i,hi,hi1⟩:∃ i,Tryd.prog.info? 5 = some i /\ i.size = 1:=by
   obtain ⟨i,hi,hz⟩:=Option.map_eq_some_iff.1 info5
   simp only [Prod.mk.injEq] at hz
   exact ⟨i,hi,hz.2.1⟩
 have hu:=run_underlying (P:=Tryd.prog) Tryd.underlying32 w
 have hst:=run_storeCells_at Tryd.prog b 0 T ((y.data.toList.map fun x => Value.int .u8 (x.toNat:Int)).take (min y.size 3)) 0 _ w h (by rw [List.length_take]; show 0 + 0 + _ <= 3; omega) (by
   intro v hv
   obtain ⟨x,_,rfl⟩:=List.mem_map.1 (List.mem_of_mem_take hv)
   rfl)
 have hmin:Nat.min y.size 3 = min y.size 3:=rfl
 refine ⟨_,by simp [Builtin.copy_,hu,Builtin.lenOf,Builtin.firstCells,sizeOf,typeInfo,hi,hmin,goInt,hst,Result.andThen]; rfl, ?_,fun w0 hb hs => below_setRow hs hb _⟩
 rw [setRow_heap w b _ _ T _ h]
 congr 2
 have hz:y.size = y.data.toList.length:=rfl
 rw [hz]
 match y.data.toList with
 | [] => rfl
 | [a] => rfl
 | [a,c] => rfl
 | a :: c :: d :: r =>
   rw [Nat.min_eq_right (by show 3 <= r.length + 1 + 1 + 1; omega)]
   rfl
end Pm
namespace Pm
def rs (x:Nat):Nat -> List UInt8
 | 0 => []
 | k + 1 => sg (x / 64 ^ k % 64) :: rs x k
theorem four_rs (x m:Nat) (h1:1 <= m) (h3:m <= 3):four x m = (rs x 4).take (m + 1) ++ ([61,61]:List UInt8).take (3 - m):=by
 have e:rs x 4 = [sg (x / 2 ^ (18 - 6 * 0) % 64),sg (x / 2 ^ (18 - 6 * 1) % 64),sg (x / 2 ^ (18 - 6 * 2) % 64),sg (x / 2 ^ (18 - 6 * 3) % 64)]:=rfl
 rw [e]
 unfold four
 rcases (show m = 1 ∨ m = 2 ∨ m = 3 by omega) with rfl | rfl | rfl
 · rw [pick_in _ _ _ (by decide),pick_in _ _ _ (by decide),pick_out _ _ _ (by decide),pick_out _ _ _ (by decide)]; rfl
 · rw [pick_in _ _ _ (by decide),pick_in _ _ _ (by decide),pick_in _ _ _ (by decide),pick_out _ _ _ (by decide)]; rfl
 · rw [pick_in _ _ _ (by decide),pick_in _ _ _ (by decide),pick_in _ _ _ (by decide),pick_in _ _ _ (by decide)]; rfl
theorem get3:∀ (L:List UInt8),L ≠ [] -> Oct.numN (L.take 3 ++ List.replicate (3 - (L.take 3).length) 0) = num3 (L.getD 0 0) (L.getD 1 0) (L.getD 2 0)
 | [],h => absurd rfl h
 | [a],_ => by unfold num3; simp [Oct.numN,List.replicate]; omega
 | [a,b],_ => by unfold num3; simp [Oct.numN]; omega
 | a :: b :: c :: r,_ => by unfold num3; simp [Oct.numN]; omega
theorem alph_one (d:Nat) (h:d < 64):(alph.extract d (d + 1)).data.toList = [sg d]:=by
 rw [RefOct.one_ext alph d h,alph_at d h]
theorem dl (l:List UInt8) (p i:Nat):(l.drop p).getD i 0 = l.getD (p + i) 0:=by
 rw [List.getD_eq_getElem?_getD,List.getD_eq_getElem?_getD,List.getElem?_drop]
set_option maxHeartbeats 8000000 in
theorem rbase_mk (s:ByteArray) (hm:s.size <= 200000):Mak 13 #[.string s] (.string (bs (baseL s.data.toList))):=by
 intro w
 have HM:=lH hm
 obtain ⟨l,hl⟩:∃ l,l = s.data.toList:=⟨_,rfl⟩
 have HL:=lH hl
 have HLN:=lH (show l.length = s.size by rw [hl]; rfl)
 rw [<- hl]
 obtain ⟨R,hR⟩:∃ R,R = bs (baseL l):=⟨_,rfl⟩
 rw [<- hR]
 have HR:=lH hR
 have HS0:=lH (Since.refl w)
 clear hl hR
 go_enter Tryd.func13,Tryd.ntmps13
 go_wp2_with fail
 go_loopw [3,4] (fun o i wr => ∃ (p k:Nat) (O:ByteArray),p = 3 * k /\ i = .int .i64 (p:Int) /\ Hid (p <= s.size + 2) /\ o = .string O /\ Hid (O.data.toList = baseL (l.take p)) /\ Hid (Since w wr)) (fun _ i _ => s.size - (intOf i).toNat)
 case atStart => exact ⟨0,0,⟨#[]⟩,rfl,rfl,lH (Nat.zero_le _),rfl,lH rfl,HS0⟩
 case round =>
   clear HS0
   obtain ⟨p,k,O,hp,rfl,HP,rfl,HO,HS⟩:=hrel
   have HPK:=lH hp
   have hpb:p <= 200002:=by have:=HP.out; omega
   clear hp
   by_cases hlt:p < s.size
   · have HLT:=lH hlt
     obtain ⟨X,hX⟩:∃ X,X = bs ((s.data.toList.drop p).take 3):=⟨_,rfl⟩
     have c1:Ret 27 #[.string s,.int .i64 (p:Int),.int .i64 3] (.string X):=fun w => RefOct.cut_yes s p 3 w (by omega) (by omega) (by decide) (by decide) X hX
     have hXl:X.data.toList = (l.drop p).take 3:=by rw [hX,list_bs,HL.out]
     obtain ⟨m,hmz⟩:∃ m,m = X.size:=⟨_,rfl⟩
     have hm2:m = min (l.length - p) 3:=by
       rw [hmz]
       show X.data.toList.length = _
       rw [hXl,List.length_take,List.length_drop]
       omega
     have hm1:1 <= m:=by rw [hm2,HLN.out]; omega
     have hm3:m <= 3:=by omega
     obtain ⟨N,hN⟩:∃ N,N = num3 (l.getD p 0) (l.getD (p + 1) 0) (l.getD (p + 2) 0):=⟨_,rfl⟩
     have HG4:Hid (grpL l p = four N m):=lH (by unfold grpL; rw [<- hN,<- hm2])
     have HNB:Hid (N < 16777216):=lH (by rw [hN]; exact num_lt _ _ _)
     have HGN:Hid (Oct.numN ((l.drop p).take 3 ++ List.replicate (3 - m) 0) = N):=lH (by
       have h1:=get3 (l.drop p) (fun h => by have:=congrArg List.length h; rw [List.length_drop,HLN.out] at this; simp at this; omega)
       rw [<- hXl,show X.data.toList.length = m from hmz.symm] at h1
       rw [<- hXl,h1,hN,dl,dl,dl]
       rfl)
     have HXL:=lH hXl
     have HMZ:=lH hmz
     have HOZ:Hid (O.size <= 400000):=lH (by
       have h1:O.size = O.data.toList.length:=rfl
       rw [h1,HO.out,base_len,List.length_take,HLN.out]
       have:=HM.out
       omega)
     clear hX hXl hmz hm2 hN
     go_wp2_with fail
     refine (c1).calls ?_
     go_wp2_with fail
     rw [<- HMZ.out]
     go_loopw [5] (fun t wr => ∃ (z:Nat) (Y:ByteArray),z <= 3 - m /\ t = .string Y /\ Y.size = m + z /\ Hid (Y.data.toList = (l.drop p).take 3 ++ List.replicate z 0) /\ Hid (Since w wr)) (fun t _ => 3 - Oct.strLen t)
     case atStart => exact ⟨0,X,Nat.zero_le _,rfl,HMZ.out.symm,lH (by rw [HXL.out]; simp),HS⟩
     case round =>
       clear HS
       obtain ⟨z,Y,hz,rfl,hyz,HY,HS⟩:=hrel
       by_cases hy3:Y.size < 3
       · have z1:¬ 9223372036854775807 < Y.size + (⟨#[0]⟩:ByteArray).size:=by show ¬ _ < Y.size + 1; omega
         have HY2:Hid ((Y ++ ⟨#[0]⟩).data.toList = (l.drop p).take 3 ++ List.replicate (z + 1) 0):=lH (by
           rw [app_list,HY.out,List.append_assoc,List.replicate_succ'])
         have HYZ:Hid ((Y ++ ⟨#[0]⟩).size = m + (z + 1)):=lH (by rw [ByteArray.size_append,hyz]; rfl)
         go_wp2_with fail
         go_roundw
         case rel => exact ⟨z + 1,_,by omega,rfl,HYZ.out,HY2,HS⟩
         case measure => (show 3 - (Y ++ ⟨#[0]⟩).size < 3 - Y.size; rw [HYZ.out]; omega)
       · have hy3':Y.size = 3:=by omega
         have hz3:z = 3 - m:=by omega
         have c2:Ret 28 #[.string Y] (.tuple #[.int .u64 (N:Int),.bool true]):=fun w => by
           have h1:=RefOct.get_in Y w (by omega) (by omega)
           rw [HY.out,hz3,HGN.out] at h1
           exact h1
         clear hyz HY hz hz3
         go_wp2_with fail
         refine (c2).calls ?_
         go_wp2_with fail
         go_loopw [7,9,10] (fun v f i wr => ∃ (j x:Nat) (F:ByteArray),j <= 4 /\ i = .int .i64 (j:Int) /\ v = .int .u64 (x:Int) /\ x < 16777216 /\ Hid (x = N / 64 ^ j) /\ f = .string F /\ F.size = j /\ Hid (F.data.toList = rs N j) /\ Hid (Since w wr)) (fun _ _ i _ => 4 - (intOf i).toNat)
         case atStart => exact ⟨0,N,⟨#[]⟩,by decide,rfl,rfl,HNB.out,lH (by simp),rfl,rfl,lH rfl,HS⟩
         case round =>
           clear HS
           obtain ⟨j,x,F,hj,rfl,rfl,hx,HX,rfl,hfz,HFL,HS⟩:=hrel
           by_cases hj4:j < 4
           · obtain ⟨d,hd⟩:∃ d,d = x % 64:=⟨_,rfl⟩
             have hd64:d < 64:=by omega
             have e1:(x:Int) % 64 = (d:Int):=by omega
             obtain ⟨x2,hx2⟩:∃ y,y = x / 64:=⟨_,rfl⟩
             have e2:(x:Int) / 64 = (x2:Int):=by omega
             have HX2:Hid (x2 = N / 64 ^ (j + 1)):=lH (by rw [hx2,HX.out,Nat.div_div_eq_div_mul,Nat.pow_succ])
             obtain ⟨D,hD⟩:∃ D,D = alph.extract d (d + 1):=⟨_,rfl⟩
             have ha:=hD.symm
             have hDl:D.data.toList = [sg d]:=by rw [hD,alph_one d hd64]
             have hDz:D.size = 1:=by show D.data.toList.length = 1; rw [hDl]; rfl
             have z1:¬ 9223372036854775807 < D.size + F.size:=by omega
             have HF2:Hid ((D ++ F).data.toList = rs N (j + 1)):=lH (by rw [app_list,hDl,HFL.out,rs,<- HX.out,<- hd]; rfl)
             have HFZ:Hid ((D ++ F).size = j + 1):=lH (by rw [ByteArray.size_append,hDz,hfz]; omega)
             have HX3:Hid (x2 < 16777216):=lH (by omega)
             unfold alph at ha
             clear hd hx2 hD hDl
             go_wp2_with fail
             go_roundw
             case rel => exact ⟨j + 1,x2,_,by omega,by go_num,rfl,HX3.out,HX2,rfl,HFZ.out,HF2,HS⟩
             case measure => (simp [intOf] <;> omega)
           · obtain rfl:j = 4:=by omega
             clear hx HX
             rcases (show m = 1 ∨ m = 2 ∨ m = 3 by omega) with rfl | rfl | rfl
             · have HF:Hid (((O ++ F.extract 0 2) ++ (⟨#[61,61]⟩:ByteArray).extract 0 2).data.toList = baseL (l.take (p + 3))):=lH (by
                 rw [app_list,app_list,HO.out,ext_list,ext_list,HFL.out,HPK.out,base_next l k (by rw [HLN.out,<- HPK.out]; exact HLT.out),<- HPK.out,HG4.out,four_rs N 1 (by decide) (by decide)]
                 first | rfl | (rw [List.append_assoc]; rfl))
               have hoz:O.size <= 400000:=HOZ.out
               have z1:¬ 9223372036854775807 < O.size + (F.extract 0 2).size:=by rw [ByteArray.size_extract]; omega
               have z2:¬ 9223372036854775807 < (O ++ F.extract 0 2).size + ((⟨#[61,61]⟩:ByteArray).extract 0 2).size:=by rw [ByteArray.size_append,ByteArray.size_extract,ByteArray.size_extract]; omega
               have z3:(2:Int) <= (F.size:Int):=by omega
               have HPP:=lH (show p + 3 = 3 * (k + 1) by rw [HPK.out]; omega)
               have hwp:p <= 200000:=by have:=HLT.out; have:=HM.out; omega
               have z5:decide ((2:Int) <= (F.size:Int)) = true:=decide_eq_true z3
               have z6:2 <= F.size:=by omega
               have z4:¬ 9223372036854775807 < O.size + 4:=by omega
               clear hoz hfz hj hj4 hm1 hm3
               go_wp2_with fail
               go_quiet (fail)
               replace HS:=lH (HS.out.step (w':=wr.drewN nq) ⟨rfl,rfl,rfl,Nat.le_refl _,fun _ _ => rfl⟩)
               go_wp2_with fail
               go_roundw
               case rel => exact ⟨p + 3,k + 1,_,HPP.out,by go_num,lH (by omega),rfl,HF,HS⟩
               case measure => (simp [intOf] <;> omega)
             · have HF:Hid (((O ++ F.extract 0 3) ++ (⟨#[61,61]⟩:ByteArray).extract 0 1).data.toList = baseL (l.take (p + 3))):=lH (by
                 rw [app_list,app_list,HO.out,ext_list,ext_list,HFL.out,HPK.out,base_next l k (by rw [HLN.out,<- HPK.out]; exact HLT.out),<- HPK.out,HG4.out,four_rs N 2 (by decide) (by decide)]
                 first | rfl | (rw [List.append_assoc]; rfl))
               have hoz:O.size <= 400000:=HOZ.out
               have z1:¬ 9223372036854775807 < O.size + (F.extract 0 3).size:=by rw [ByteArray.size_extract]; omega
               have z2:¬ 9223372036854775807 < (O ++ F.extract 0 3).size + ((⟨#[61,61]⟩:ByteArray).extract 0 1).size:=by rw [ByteArray.size_append,ByteArray.size_extract,ByteArray.size_extract]; omega
               have z3:(3:Int) <= (F.size:Int):=by omega
               have HPP:=lH (show p + 3 = 3 * (k + 1) by rw [HPK.out]; omega)
               have hwp:p <= 200000:=by have:=HLT.out; have:=HM.out; omega
               have z5:decide ((3:Int) <= (F.size:Int)) = true:=decide_eq_true z3
               have z6:3 <= F.size:=by omega
               have z4:¬ 9223372036854775807 < O.size + 4:=by omega
               clear hoz hfz hj hj4 hm1 hm3
               go_wp2_with fail
               go_quiet (fail)
               replace HS:=lH (HS.out.step (w':=wr.drewN nq) ⟨rfl,rfl,rfl,Nat.le_refl _,fun _ _ => rfl⟩)
               go_wp2_with fail
               go_roundw
               case rel => exact ⟨p + 3,k + 1,_,HPP.out,by go_num,lH (by omega),rfl,HF,HS⟩
               case measure => (simp [intOf] <;> omega)
             · have HF:Hid ((O ++ F.extract 0 4).data.toList = baseL (l.take (p + 3))):=lH (by
                 rw [app_list,HO.out,ext_list,HFL.out,HPK.out,base_next l k (by rw [HLN.out,<- HPK.out]; exact HLT.out),<- HPK.out,HG4.out,four_rs N 3 (by decide) (by decide)]
                 first | rfl | (rw [List.append_assoc]; rfl))
               have hoz:O.size <= 400000:=HOZ.out
               have z1:¬ 9223372036854775807 < O.size + (F.extract 0 4).size:=by rw [ByteArray.size_extract]; omega
               have z2:¬ 9223372036854775807 < (O ++ F.extract 0 4).size + ((⟨#[61,61]⟩:ByteArray).extract 0 0).size:=by rw [ByteArray.size_append,ByteArray.size_extract,ByteArray.size_extract]; omega
               have z3:(4:Int) <= (F.size:Int):=by omega
               have HPP:=lH (show p + 3 = 3 * (k + 1) by rw [HPK.out]; omega)
               have hwp:p <= 200000:=by have:=HLT.out; have:=HM.out; omega
               have z5:decide ((4:Int) <= (F.size:Int)) = true:=decide_eq_true z3
               have z6:4 <= F.size:=by omega
               have z4:¬ 9223372036854775807 < O.size + 4:=by omega
               clear hoz hfz hj hj4 hm1 hm3
               go_wp2_with fail
               go_quiet (fail)
               replace HS:=lH (HS.out.step (w':=wr.drewN nq) ⟨rfl,rfl,rfl,Nat.le_refl _,fun _ _ => rfl⟩)
               go_wp2_with fail
               go_roundw
               case rel => exact ⟨p + 3,k + 1,_,HPP.out,by go_num,lH (by omega),rfl,HF,HS⟩
               case measure => (simp [intOf] <;> omega)
   · have hRO:R = O:=by
       rw [HR.out]
       apply ba_ext
       rw [HO.out,list_bs,List.take_of_length_le (by rw [HLN.out]; omega)]
     subst hRO
     go_wp2_with fail
     go_ret
     exact ⟨rfl,HS.out⟩
end Pm
end Go.Proofs.YtagmgldibjjeeaaDoor
