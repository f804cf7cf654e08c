import Derived.Lib.SlBuf
import Derived.Test.YtpanhhjkecebkaaGreatPt8
set_option maxRecDepth 100000
namespace Go.Proofs.YtpanhhjkecebkaaGreat
open Go.RowKit
theorem info5:(Tryz.prog.info? 5).map (fun i => (i.zero,i.size,i.bytes)) = some (some (Value.int IntKind.u8 0),1,1):=by kernel_rfl
def putAt (f:Nat -> Value) (off:Nat) (l:List UInt8):Nat -> Value:=fun j => if off <= j /\ j < off + l.length then .int .u8 ((l.getD (j - off) 0).toNat:Int) else f j
theorem run_copy_str (w:World) (s:ByteArray) (b t off N dLen dCap ty:Nat) (f:Nat -> Value) (A:Option Addr) (h:w.rowIs b t N f) (hA:0 < s.size -> A = some ⟨b,off,none⟩) (hfit:off + s.size <= N) (hd:s.size <= dLen) :
   ∃ w',(Builtin.copy_ #[99,9] ty #[.slice A dLen dCap,.string s]).run Tryz.prog w = .ok (.int .i64 (s.size:Int)) w' /\ w'.rowIs b t N (putAt f off s.data.toList) /\ ∀ (B:Nat) (w0:World),Below B w0 w -> B <= b -> Below B w0 w':=by
 obtain ⟨c,hg,hn,hc⟩:=h;have hi:∃ i,Tryz.prog.info? 5 = some i /\ i.size = 1:=by
   obtain ⟨i,hi,hz⟩:=Option.map_eq_some_iff.1 info5;simp only [Prod.mk.injEq] at hz;exact ⟨i,hi,hz.2.1⟩
 obtain ⟨i,hi,hi1⟩:=hi;have hmin:Nat.min s.size dLen = s.size:=Nat.min_eq_left hd;have htk:List.take s.size (s.data.toList.map fun b => Value.int .u8 (b.toNat:Int)) = s.data.toList.map fun b => Value.int .u8 (b.toNat:Int):=List.take_of_length_le (by simp)
 have hu:=run_underlying (P:=Tryz.prog) Tryz.underlying99 w
 by_cases h0:s.size = 0
 · have hl:s.data.toList = []:=List.eq_nil_of_length_eq_zero h0;refine ⟨w, ?_,⟨c,hg,hn,fun j hj => by rw [hc j hj]; unfold putAt; rw [hl,if_neg (fun h => by have:=h.2; simp at this; omega)]⟩,fun B w0 hb _ => hb⟩;cases A with
   | none => simp [Builtin.copy_,hu,Builtin.lenOf,Builtin.firstCells,sizeOf,typeInfo,hi,hmin,goInt]
   | some ad => simp [Builtin.copy_,hu,Builtin.lenOf,Builtin.firstCells,sizeOf,typeInfo,hi,hmin,goInt,hl,storeCells]
 · obtain rfl:=hA (by omega);have hst:=run_storeCells_at Tryz.prog b off t (s.data.toList.map fun b => Value.int .u8 (b.toNat:Int)) 0 c w hg (by simp; show off + s.size <= c.size; omega) (by intro v hv; obtain ⟨x,_,rfl⟩:=List.mem_map.1 hv; rfl);refine ⟨_,by simp [Builtin.copy_,hu,Builtin.lenOf,Builtin.firstCells,sizeOf,typeInfo,hi,hmin,goInt,htk,hst]; rfl,⟨_,setRow_heap w b c _ t _ hg, ?_,fun j hj => ?_⟩,fun B w0 hb hB => below_setRow hb hB _⟩
   · simp; omega
   · have hlen:s.data.toList.length = s.size:=rfl;unfold putAt;simp only [List.getElem?_toArray]
     by_cases h1:j < off
     · rw [if_neg (by omega),List.getElem?_append_left (by simp; omega),List.getElem?_take_of_lt h1,Array.getElem?_toList];exact hc j hj
     · by_cases h2:j < off + s.size
       · rw [if_pos (by omega),List.getElem?_append_right (by simp; omega),List.getElem?_append_left (by simp; omega)];have he:j - (List.take off c.toList).length = j - off:=by simp; omega
         rw [he,List.getElem?_map,List.getElem?_eq_getElem (by omega)];simp [List.getD,List.getElem?_eq_getElem (show j - off < s.data.toList.length by omega)]
       · rw [if_neg (by omega),List.getElem?_append_right (by simp; omega),List.getElem?_append_right (by simp; omega),List.getElem?_drop,Array.getElem?_toList];have he:off + s.size + (j - (List.take off c.toList).length - (List.map (fun b => Value.int .u8 (b.toNat:Int)) s.data.toList).length) = j:=by simp; omega
         rw [he];exact hc j hj
namespace Oct
def putF (n:Int) (j:Nat):Value:=.int .u8 (n / 2 ^ (8 * (7 - j)) % 256)
def putL (n:Int) (width:Nat):List Int:=(List.range width).map fun i => n / 2 ^ (8 * (7 - (8 - width + i))) % 256
theorem slice8 (width b:Nat) (h0:1 <= width) (h1:width <= 8):∀ w:World,
   (Instr.sliceAt 182 (.pointer (some ⟨b,0,none⟩)) (some (.int .i64 (8 - (width:Int)))) none none).run Tryz.prog w = .ok (.slice (some ⟨b,8 - width,none⟩) width width) w:=by
 rcases (show width = 1 ∨ width = 2 ∨ width = 3 ∨ width = 4 ∨ width = 5 ∨ width = 6 ∨ width = 7 ∨ width = 8 by omega) with rfl | rfl | rfl | rfl | rfl | rfl | rfl | rfl <;> intro w <;> kernel_rfl
set_option maxHeartbeats 400000 in
theorem put_mid (n:Int) (width:Nat) (w:World) (_hn:0 <= n) (_hn2:n <= 18446744073709551615) (h0:1 <= width) (h1:width <= 8) :
   Calls Tryz.prog 109 #[.int .u64 n,.int .i64 (width:Int)] w fun e w' => e = .returned (.string (strOfNums (putL n width))) /\ Below w.heap.size w w':=by
 go_enter Tryz.func109,Tryz.ntmps109
 go_wp2
 go_loopw [13] (fun i wr => ∃ k:Nat,k <= 8 /\ i = .int .i64 (k:Int) /\ Hid (wr.rowIs w.heap.size 182 8 (fun j => if j < k then putF n j else .int .u8 0)) /\ Hid (Below w.heap.size w wr)) (fun i _ => 8 - (intOf i).toNat)
 case atStart =>
   refine ⟨0,by omega,rfl, ?_, ?_⟩
   · exact lH (World.rowIs_alloc w _ _ _ (fun i hi => by
       match i,hi with
       | 0,_ | 1,_ | 2,_ | 3,_ | 4,_ | 5,_ | 6,_ | 7,_ => rfl
       | n + 8,hi => simp at hi; omega))
   · exact lH ((Below.refl _ _).alloc (Nat.le_refl _) _)
 case round =>
   obtain ⟨k,hk,rfl,HR,HB⟩:=hrel
   by_cases hlt:k < 8
   · have hc:=HR.out.cell (i:=k) hlt;have hf:=HR.out.frozen k;go_wp2_with fail;go_roundw
     case rel =>
       refine ⟨k + 1,by omega,by go_num,lH ((HR.out.set k _).congr fun j hj => ?_),lH (HB.out.setCell (Nat.le_refl _) _)⟩
       by_cases h1:j = k
       · subst h1; simp [putF]
       · by_cases h2:j < k
         · simp [h1,h2,show j < k + 1 from by omega]
         · simp [h1,h2,show ¬ j < k + 1 from by omega]
     case measure => simp [intOf]; omega
   · obtain rfl:k = 8:=by omega
     have g:=run_convert_bytes_arg (P:=Tryz.prog) wr 99 5 Tryz.underlying99 Tryz.underlying5 w.heap.size (8 - width) width width (putL n width) (by simp [putL]) (fun i hi => by
       rw [HR.out.cell (by omega),if_pos (by omega)]; simp [putF,putL,show i < width from by omega]) 9 Tryz.underlying9
     have hsl:=slice8 width w.heap.size h0 h1;have HR':=HR; have HB':=HB;go_wp2_with fail;go_ret;exact ⟨rfl,HB.out⟩
def numN (l:List UInt8):Nat:=l.foldl (fun n c => n * 256 + c.toNat) 0
theorem numN_snoc (l:List UInt8) (c:UInt8):numN (l ++ [c]) = numN l * 256 + c.toNat:=by unfold numN; rw [List.foldl_append]; rfl
theorem numN_aux (l:List UInt8):∀ n:Nat,l.foldl (fun n c => n * 256 + c.toNat) n < (n + 1) * 256 ^ l.length:=by
 induction l with
 | nil => intro n; simp
 | cons c l ih =>
   intro n;have h:=ih (n * 256 + c.toNat);have hc:=c.toNat_lt;simp only [List.foldl_cons,List.length_cons];refine Nat.lt_of_lt_of_le h ?_;rw [Nat.pow_succ,Nat.mul_comm (256 ^ l.length) 256,<- Nat.mul_assoc];exact Nat.mul_le_mul_right _ (by omega)
theorem numN_lt (l:List UInt8) (k:Nat) (h:l.length <= k):numN l < 256 ^ k:=by
 have h1:=numN_aux l 0;rw [Nat.zero_add,Nat.one_mul] at h1;exact Nat.lt_of_lt_of_le h1 (Nat.pow_le_pow_right (by decide) h)
set_option maxHeartbeats 400000 in
theorem cut_no (s:ByteArray) (a n:Int) (w:World) (_hm:s.size <= 9223372036854775807) (h:a < 0 ∨ (s.size:Int) <= a ∨ n < 1) :
   Calls Tryz.prog 119 #[.string s,.int .i64 a,.int .i64 n] w fun e w' => e = .returned (.string ⟨#[]⟩) /\ w = w':=by
 by_cases h1:a < 0
 · go_enter Tryz.func119,Tryz.ntmps119
   go_wp2
   go_ret;exact ⟨rfl,rfl⟩
 · by_cases h2:(s.size:Int) <= a
   · go_enter Tryz.func119,Tryz.ntmps119
     go_wp2
     go_ret;exact ⟨rfl,rfl⟩
   · have h3:n < 1:=by omega
     clear h
     go_enter Tryz.func119,Tryz.ntmps119
     go_wp2
     go_ret;exact ⟨rfl,rfl⟩
theorem cut_eq (s:ByteArray) (a n m:Nat) (h:m = min n (s.size - a)):s.extract a (a + m) = bs ((s.data.toList.drop a).take n):=by
 subst h
 apply ba_ext
 rw [ext_list,list_bs,Nat.add_sub_cancel_left];rw [List.take_eq_take_iff];simp
set_option maxHeartbeats 400000 in
theorem cut_yes (s:ByteArray) (a n:Nat) (w:World) (hm:s.size <= 9223372036854775807) (hn:n <= 9223372036854775807) (h1:a < s.size) (h2:1 <= n) :
   Calls Tryz.prog 119 #[.string s,.int .i64 (a:Int),.int .i64 (n:Int)] w fun e w' => e = .returned (.string (bs ((s.data.toList.drop a).take n))) /\ w = w':=by
 by_cases hc:s.size - a < n
 · have he:=cut_eq s a n (s.size - a) (by omega)
   go_enter Tryz.func119,Tryz.ntmps119
   go_wp2
   go_ret;exact ⟨by simp [he],rfl⟩
 · have he:=cut_eq s a n n (by omega)
   go_enter Tryz.func119,Tryz.ntmps119
   go_wp2
   go_ret;exact ⟨by simp [he],rfl⟩
end Oct
namespace Oct
def cat (ss:List ByteArray):List UInt8:=(ss.map fun s => s.data.toList).flatten
theorem cat_snoc (ss:List ByteArray) (s:ByteArray):cat (ss ++ [s]) = cat ss ++ s.data.toList:=by simp [cat]
theorem cat_take (ss:List ByteArray) (k:Nat) (h:k < ss.length):cat (ss.take (k + 1)) = cat (ss.take k) ++ ss[k].data.toList:=by
 rw [List.take_succ_eq_append_getElem h,cat_snoc]
theorem cat_len (ss:List ByteArray) (k:Nat):(cat (ss.take k)).length <= (cat ss).length:=by
 have h:cat ss = cat (ss.take k) ++ cat (ss.drop k):=by
   unfold cat; rw [<- List.flatten_append,<- List.map_append,List.take_append_drop]
 rw [h]; simp
def rowF (l:List UInt8) (j:Nat):Value:=if j < l.length then .int .u8 ((l.getD j 0).toNat:Int) else .int .u8 0
theorem rowF_put (l m:List UInt8) (j:Nat):putAt (rowF l) l.length m j = rowF (l ++ m) j:=by
 unfold putAt rowF
 by_cases h1:j < l.length
 · rw [if_neg (by omega),if_pos h1,if_pos (by simp; omega)];simp [List.getD,List.getElem?_append_left h1]
 · by_cases h2:j < l.length + m.length
   · rw [if_pos (by omega),if_pos (by simpa using h2)];simp [List.getD,List.getElem?_append_right (show l.length <= j by omega)]
   · rw [if_neg (by omega),if_neg h1,if_neg (by simpa using h2)]
set_option maxHeartbeats 1000000 in
theorem join_any (ss:List ByteArray) (ad:Addr) (cap N n:Nat) (w:World) (hn:n = ss.length) (hN:N = (cat ss).length) (hm:N <= 140737488355328) (hl:n <= 140737488355328) (hb:ad.block < w.heap.size)
   (hc:∀ i,i < n -> w.cell? (ad.add i) = some (.string (ss.getD i ⟨#[]⟩))) :
   Calls Tryz.prog 185 #[.slice (some ad) n cap] w fun e w' => e = .returned (.string (bs (cat ss))) /\ Below w.heap.size w w':=by
 have hmk:∀ w:World,(Instr.makeSlice 99 (.int .i64 (N:Int)) (.int .i64 (N:Int))).run Tryz.prog w = .ok (.slice (some ⟨w.heap.size,0,none⟩) N N) (w.alloc (.cells (madeCells #[.int .u8 0] N) 5)):=fun w =>
   run_make_row' (P:=Tryz.prog) 99 5 (.int .u8 0) 1 Tryz.underlying99 info5 rfl .i64 .i64 N (by omega) (by omega) w
 have HC:=lH hc;have HN:=lH hn;have HNN:=lH hN;clear hc hn hN
 go_enter Tryz.func185,Tryz.ntmps185
 go_wp2
 go_loop [3,12] (fun t i => ∃ k:Nat,k <= n /\ i = .int .i64 (k:Int) /\ t = .int .i64 (((cat (ss.take k)).length:Nat):Int)) (fun _ i => n - (intOf i).toNat)
 case atStart => exact ⟨0,by omega,rfl,rfl⟩
 case round =>
   obtain ⟨k,hk,rfl,rfl⟩:=hrel;have hle:=cat_len ss k
   by_cases hlt:k < n
   · have hkl:k < ss.length:=by rw [<- HN.out]; exact hlt
     have hcell:=HC.out k hlt;have hs:=congrArg List.length (cat_take ss k hkl);rw [List.length_append] at hs;have hle2:=cat_len ss (k + 1);obtain ⟨p,hp⟩:∃ p,p = ss.getD k ⟨#[]⟩:=⟨_,rfl⟩
     have hpk:ss[k].data.toList.length = p.size:=by rw [hp]; simp [List.getD,List.getElem?_eq_getElem hkl]
     rw [hpk] at hs;rw [<- hp] at hcell;rw [<- HNN.out] at hle hle2;have HP:=lH hp;clear hp hpk;have hsz:(cat (ss.take k)).length + p.size <= N:=by omega
     have HS:=lH hs;clear hs hle2;go_wp2_with fail
     go_round
     case rel => exact ⟨k + 1,by omega,by go_num,by rw [HS.out]; try go_num⟩
     case measure => simp [intOf]; omega
   · obtain rfl:k = n:=by omega
     have hall:(cat (ss.take k)).length = N:=by rw [HN.out,List.take_length,HNN.out]
     rw [hall];clear hle hall;go_wp2_with fail;go_loopw [7,25] (fun t i wr => ∃ q:Nat,q <= k /\ i = .int .i64 (q:Int) /\ t = .int .i64 (((cat (ss.take q)).length:Nat):Int) /\ Hid (wr.rowIs w.heap.size 5 N (rowF (cat (ss.take q)))) /\ Hid (Below w.heap.size w wr)) (fun _ i _ => k - (intOf i).toNat)
     case atStart =>
       exact ⟨0,by omega,rfl,rfl,lH ((World.rowIs_made w (.int .u8 0) N 5).congr fun j _ => by simp [rowF,cat]),lH ((Below.refl _ _).alloc (Nat.le_refl _) _)⟩
     case round =>
       obtain ⟨q,hq,rfl,rfl,HR,HB⟩:=hrel;have hle:=cat_len ss q
       by_cases hlt:q < k
       · have hql:q < ss.length:=by rw [<- HN.out]; exact hlt
         have hcell0:=HC.out q hlt;have hct:=cat_take ss q hql;have hle2:=cat_len ss (q + 1);obtain ⟨p,hp⟩:∃ p,p = ss.getD q ⟨#[]⟩:=⟨_,rfl⟩
         have hpk:ss[q] = p:=by rw [hp]; simp [List.getD,List.getElem?_eq_getElem hql]
         rw [hpk] at hct;rw [<- hp] at hcell0;have hcell:wr.cell? (ad.add q) = some (.string p):=(HB.out.cell (by rw [show (ad.add q).block = ad.block from by unfold Addr.add; split <;> rfl]; exact hb)).trans hcell0;rw [<- HNN.out] at hle hle2;rw [hct,List.length_append] at hle2;have hsz:(cat (ss.take q)).length + p.size <= N:=hle2;have HCT:=lH hct;clear hp hpk hct hle2 hcell0;obtain ⟨L,hL⟩:∃ L,L = cat (ss.take q):=⟨_,rfl⟩
         rw [<- hL] at HR HCT hsz hle;rw [<- hL];have HL:=lH hL;clear hL
         by_cases hN2:L.length = N
         · subst hN2;obtain ⟨w',hrun,hrow,hbel⟩:=run_copy_str wr p w.heap.size 5 L.length L.length 0 0 3 (rowF L) (some ⟨w.heap.size,0,none⟩) HR.out (fun h => by omega) hsz (by omega);have HW:=lH hrow;have HBL:=lH hbel;have HRUN:=lH hrun;clear hrow hbel hrun;go_wp2_with (refine Lib.wpList_copy_run (P:=Tryz.prog) _ (o:=⟨some 34,_,_,_,_,_⟩) rfl (.tmp 32) (.tmp 33) 99 9 rfl _ _ rfl rfl HRUN.out ?_)
           go_roundw
           case rel => exact ⟨q + 1,by omega,by go_num,by rw [HCT.out,List.length_append]; first | rfl | go_num,lH (HW.out.congr fun j _ => by rw [rowF_put,HCT.out]),lH (HBL.out _ _ HB.out (Nat.le_refl _))⟩
           case measure => simp [intOf]; omega
         · obtain ⟨w',hrun,hrow,hbel⟩:=run_copy_str wr p w.heap.size 5 L.length N (N - L.length) (N - L.length) 3 (rowF L) (some ⟨w.heap.size,L.length,none⟩) HR.out (fun h => rfl) hsz (by omega);have HW:=lH hrow;have HBL:=lH hbel;have HRUN:=lH hrun;clear hrow hbel hrun;go_wp2_with (refine Lib.wpList_copy_run (P:=Tryz.prog) _ (o:=⟨some 34,_,_,_,_,_⟩) rfl (.tmp 32) (.tmp 33) 99 9 rfl _ _ rfl rfl HRUN.out ?_)
           go_roundw
           case rel => exact ⟨q + 1,by omega,by go_num,by rw [HCT.out,List.length_append]; first | rfl | go_num,lH (HW.out.congr fun j _ => by rw [rowF_put,HCT.out]),lH (HBL.out _ _ HB.out (Nat.le_refl _))⟩
           case measure => simp [intOf]; omega
       · obtain rfl:q = k:=by omega
         have hall:cat (ss.take q) = cat ss:=by rw [HN.out,List.take_length]
         rw [hall] at HR;have g:=run_convert_bytes_arg (P:=Tryz.prog) wr 99 5 Tryz.underlying99 Tryz.underlying5 w.heap.size 0 N N ((cat ss).map fun c => (c.toNat:Int)) (by rw [List.length_map,<- HNN.out]) (fun i hi => by
           rw [Nat.zero_add,HR.out.cell hi,rowF,if_pos (by rw [<- HNN.out]; exact hi)]; simp [List.getD,List.getElem?_eq_getElem (show i < (cat ss).length by rw [<- HNN.out]; exact hi)]) 9 Tryz.underlying9
         have hfin:strOfNums ((cat ss).map fun c => (c.toNat:Int)) = bs (cat ss):=nums_bytes _;have HF:=lH hfin;clear hfin hall hle;go_wp2_with fail;go_ret;exact ⟨by rw [<- HF.out]; rfl,HB.out⟩
end Oct
namespace Oct
set_option maxHeartbeats 400000 in
theorem join_nil (A:Option Addr) (c:Nat) (w:World):Calls Tryz.prog 185 #[.slice A 0 c] w fun e w' => e = .returned (.string ⟨#[]⟩) /\ Below w.heap.size w w':=by
 have hmk:∀ w:World,(Instr.makeSlice 99 (.int .i64 0) (.int .i64 0)).run Tryz.prog w = .ok (.slice (some ⟨w.heap.size,0,none⟩) 0 0) (w.alloc (.cells (madeCells #[.int .u8 0] 0) 5)):=fun w =>
   run_make_row' (P:=Tryz.prog) 99 5 (.int .u8 0) 1 Tryz.underlying99 info5 rfl .i64 .i64 0 (by omega) (by omega) w
 have g:=run_convert_bytes_arg (P:=Tryz.prog) (w.alloc (.cells (madeCells #[.int .u8 0] 0) 5)) 99 5 Tryz.underlying99 Tryz.underlying5 w.heap.size 0 0 0 [] rfl (fun i hi => by omega) 9 Tryz.underlying9
 go_enter Tryz.func185,Tryz.ntmps185
 go_wp2
 go_loop [3,12] (fun t i => i = .int .i64 0 /\ t = .int .i64 0) (fun _ _ => 0)
 case atStart => exact ⟨rfl,rfl⟩
 case round =>
   obtain ⟨rfl,rfl⟩:=hrel
   go_wp2
   go_loop [7,25] (fun t i => i = .int .i64 0 /\ t = .int .i64 0) (fun _ _ => 0)
   case atStart => exact ⟨rfl,rfl⟩
   case round =>
     obtain ⟨rfl,rfl⟩:=hrel
     go_wp2
     go_ret;exact ⟨rfl,(Below.refl _ _).alloc (Nat.le_refl _) _⟩
theorem join_strs (w:World) (x:Value) (ss:List ByteArray) (hx:StrsR w x ss) (hm:(cat ss).length <= 140737488355328) (hl:ss.length <= 140737488355328) :
   Calls Tryz.prog 185 #[x] w fun e w' => e = .returned (.string (bs (cat ss))) /\ Below w.heap.size w w':=by
 obtain ⟨m1,A1,c1,rfl,h1⟩:=hx;rcases h1 with rfl | ⟨a1,rfl,b1,e1⟩
 · exact join_nil A1 c1 w
 · exact join_any ss a1 c1 _ _ w rfl rfl hm hl b1 e1
theorem join_lit (w:World) (ss:List ByteArray) (n:Nat) (hn:n = ss.length) (cells:Array Value) (hc:cells = (ss.map Value.string).toArray) (X:ByteArray) (hX:X = bs (cat ss)) (hm:X.size <= 140737488355328) (hl:n <= 1000) :
   Calls Tryz.prog 185 #[.slice (some ⟨w.heap.size,0,none⟩) n n] (w.alloc (.cells cells 9)) fun e w' => e = .returned (.string X) /\ Below w.heap.size w w':=by
 have hs:StrsR (w.alloc (.cells cells 9)) (.slice (some ⟨w.heap.size,0,none⟩) n n) ss:=StrsR.lit w ss n hn (by unfold maxLen; omega) cells hc 9;subst hX;refine (join_strs _ _ ss hs hm (by omega)).mono fun e w' ⟨he,hb⟩ => ⟨he, ?_⟩
 exact Since.step (Since.alloc (Since.refl w) _) hb
end Oct
namespace Oct
def pc (l:List UInt8) (n i:Nat):ByteArray:=bs ((l.drop (n * i)).take n)
def trimL (l:List UInt8):List UInt8:=l.dropWhile (· == 0)
end Oct
namespace RefOct
end RefOct
namespace RefOct
set_option maxHeartbeats 400000 in
theorem get_in (s:ByteArray) (w:World) (h1:1 <= s.size) (hs:s.size <= 8) :
   Calls Tryz.prog 132 #[.string s] w fun e w' => e = .returned (.tuple #[.int .u64 (Oct.numN s.data.toList:Nat),.bool true]) /\ w = w':=by
 go_enter Tryz.func132,Tryz.ntmps132
 go_wp2
 go_loop [4,5] (fun n i => ∃ k:Nat,k <= s.size /\ i = .int .i64 k /\ n = .int .u64 ((Oct.numN (s.data.toList.take k):Nat):Int)) (fun _ i => s.size - (intOf i).toNat)
 case atStart => exact ⟨0,Nat.zero_le _,rfl,rfl⟩
 case round =>
   obtain ⟨k,hk,rfl,rfl⟩:=hrel
   by_cases hlt:k < s.size
   · have hts:Oct.numN (s.data.toList.take (k + 1)) = Oct.numN (s.data.toList.take k) * 256 + s[k].toNat:=by
       rw [List.take_succ_eq_append_getElem (by simpa using hlt),Oct.numN_snoc]; rfl
     have HS:=lH hts; clear hts;have hb:Oct.numN (s.data.toList.take k) < 72057594037927936:=Nat.lt_of_lt_of_le (Oct.numN_lt _ 7 (by simp; omega)) (by decide);have hc:=s[k].toNat_lt;generalize Oct.numN (s.data.toList.take k) = q at *;go_wp2_with fail
     go_round
     case rel => exact ⟨k + 1,by omega,by go_num,by rw [HS.out]; simp⟩
     case measure => simp [intOf]; omega
   · go_wp2_with fail;go_ret2;rw [List.take_of_length_le (by simp; omega)];exact ⟨rfl,rfl⟩
def low (n:Int):Nat -> List UInt8
 | 0 => []
 | k+1 => UInt8.ofNat (n / 2 ^ (8 * k) % 256).toNat :: low n k
theorem low_len (n:Int) (k:Nat):(low n k).length = k:=by
 induction k with
 | zero => rfl
 | succ k ih => simp [low,ih]
set_option maxHeartbeats 1000000 in
theorem put_mid (n:Int) (width:Nat) (w:World) (hn:0 <= n) (hn2:n <= 18446744073709551615) (h0:1 <= width) (h1:width <= 8) :
   Calls Tryz.prog 161 #[.int .u64 n,.int .i64 (width:Int)] w fun e w' => e = .returned (.string (bs (low n width))) /\ Below w.heap.size w w':=by
 go_enter Tryz.func161,Tryz.ntmps161
 go_wp2
 go_loopw [0,5,6] (fun v s i wr => ∃ (k:Nat) (m:Int),k <= width /\ i = .int .i64 (k:Int) /\ Hid (m = n / 2 ^ (8 * k)) /\ 0 <= m /\ m <= 18446744073709551615 /\ v = .int .u64 m /\ s = .string (bs (low n k)) /\ Hid (Since w wr)) (fun _ _ i _ => width - (intOf i).toNat)
 case atStart => exact ⟨0,n,by omega,rfl,lH (by simp),hn,hn2,rfl,rfl,lH (Since.refl w)⟩
 case round =>
   obtain ⟨k,m,hk,rfl,HM,hm0,hm1,rfl,rfl,HS⟩:=hrel
   by_cases hlt:k < width
   · have g:=run_convert_bytes_arg (P:=Tryz.prog) (wr.alloc (.cells #[.int .u8 (m % 256)] 5)) 99 5 Tryz.underlying99 Tryz.underlying5 wr.heap.size 0 1 1 [m % 256] rfl (fun i hi => by
       obtain rfl:i = 0:=by omega
       rw [Nat.zero_add,(World.rowIs_alloc wr #[.int .u8 (m % 256)] 5 (fun _ => .int .u8 (m % 256)) (fun j hj => by
         obtain rfl:j = 0:=by simp at hj; omega
         rfl)).cell (Nat.lt_succ_self 0)]; rfl) 9 Tryz.underlying9
     have hsz:¬ 9223372036854775807 < (strOfNums [m % 256]).size + (bs (low n k)).size:=by
       rw [strOfNums_size,size_bs,low_len]; simp; omega
     go_wp2_with fail;go_roundw
     case rel =>
       refine ⟨k + 1,m / 256,by omega,by go_num,lH ?_,by omega,by omega,rfl, ?_,lH (HS.out.alloc _)⟩
       · rw [HM.out,Int.ediv_ediv_of_nonneg (by exact Int.le_of_lt (Int.pow_pos (by decide))),show 8 * (k + 1) = 8 * k + 8 from by omega,Int.pow_add]; rfl
       · congr 1
         apply ba_ext
         rw [app_list,list_bs,list_bs,nums_list,HM.out];rfl
     case measure => simp [intOf]; omega
   · obtain rfl:k = width:=by omega
     go_wp2_with fail;go_ret;exact ⟨rfl,HS.out⟩
theorem low_get (n:Int) (k i:Nat) (h:i < k):(low n k)[i]? = some (UInt8.ofNat (n / 2 ^ (8 * (k - 1 - i)) % 256).toNat):=by
 induction k generalizing i with
 | zero => omega
 | succ k ih =>
   cases i with
   | zero => rfl
   | succ i => show (low n k)[i]? = _; rw [ih i (by omega),show k + 1 - 1 - (i + 1) = k - 1 - i from by omega]
theorem put_same (n:Int) (k:Nat) (h:k <= 8):strOfNums (Oct.putL n k) = bs (low n k):=by
 apply ba_ext
 rw [nums_list,list_bs]
 apply List.ext_getElem?
 intro i
 by_cases hi:i < k
 · rw [low_get n k i hi];simp [Oct.putL,hi];rw [show 7 - (8 - k + i) = k - 1 - i from by omega]
 · rw [List.getElem?_eq_none (by simp [Oct.putL]; omega),List.getElem?_eq_none (by rw [low_len]; omega)]
end RefOct
namespace Utf
def sRep:ByteArray:=⟨#[239,191,189]⟩
theorem take3 (l:List UInt8) (h:ent l 0 = 239 /\ ent l 1 = 191 /\ ent l 2 = 189):l.take 3 = [239,191,189]:=by
 obtain ⟨h0,h1,h2⟩:=h
 match l,h0,h1,h2 with
 | [],h0,_,_ => exact absurd h0 (by decide)
 | [a],_,h1,_ => exact absurd h1 (show (0:Nat) ≠ 191 by decide)
 | [a,b],_,_,h2 => exact absurd h2 (show (0:Nat) ≠ 189 by decide)
 | a :: b :: c :: r,h0,h1,h2 =>
   have e0:a = 239:=UInt8.toNat_inj.1 h0;have e1:b = 191:=UInt8.toNat_inj.1 h1;have e2:c = 189:=UInt8.toNat_inj.1 h2;rw [e0,e1,e2]; rfl
theorem take3_back (l:List UInt8) (h:l.take 3 = [239,191,189]):ent l 0 = 239 /\ ent l 1 = 191 /\ ent l 2 = 189:=by
 match l,h with
 | [],h => cases h
 | [a],h => cases h
 | [a,b],h => cases h
 | a :: b :: c :: r,h =>
   simp only [List.take_succ_cons,List.take_zero,List.cons.injEq,and_true] at h;obtain ⟨rfl,rfl,rfl⟩:=h;exact ⟨rfl,rfl,rfl⟩
theorem pt_rep (l:List UInt8) (h:l.take 3 = [239,191,189]):ptL l = 3:=by
 obtain ⟨h0,h1,h2⟩:=take3_back l h;have hl:3 <= l.length:=by
   have:=congrArg List.length h;rw [List.length_take] at this;have h9:[239,191,(189:UInt8)].length = 3:=rfl;omega
 unfold ptL ptG;rw [fold2,h0];simp only [all2];unfold cont;rw [h1,h2,if_neg (show ¬ 239 < 128 by omega),if_neg (show ¬ (192 <= 239 /\ 239 < 224) by omega),if_pos (show 224 <= 239 /\ 239 < 240 by omega),if_neg (show ¬ l.length <= 2 by omega),if_neg (show ¬ ¬ ((128 <= 191 /\ 191 <= 191) /\ 128 <= 189 /\ 189 <= 191) by omega),if_neg (show ¬ (64 * (64 * (239 - 224) + (191 - 128)) + (189 - 128) < 2048 ∨ 1114111 < 64 * (64 * (239 - 224) + (191 - 128)) + (189 - 128) ∨ 55295 < 64 * (64 * (239 - 224) + (191 - 128)) + (189 - 128) /\ 64 * (64 * (239 - 224) + (191 - 128)) + (189 - 128) < 57344) by omega)]
set_option maxHeartbeats 1000000 in
theorem utf_mak (s:ByteArray) (hm:s.size <= 1000000) (q:Bool) (hq:q = utfB s.data.toList):Mak 171 #[.string s] (.bool q):=by
 intro w;have H0:=lH (Since.refl w);have HQ:=lH hq;clear hq
 go_enter Tryz.func171,Tryz.ntmps171
 go_wp2_with fail;go_loopw [3] (fun _ w' => ∃ pos:Nat,pos <= s.size /\ w' = w.iter s pos /\ Hid (q = utfB (s.data.toList.drop pos))) (fun _ w' => s.size - w'.iterPos w.heap.size)
 case atStart => exact ⟨0,by omega,rfl,by rw [List.drop_zero]; exact HQ⟩
 case round =>
   clear HQ;obtain ⟨pos,hps,rfl,HQ⟩:=hrel;obtain ⟨l,hl⟩:∃ l,l = s.data.toList.drop pos:=⟨_,rfl⟩
   rw [<- hl] at HQ;have hlen:l.length = s.size - pos:=by rw [hl,List.length_drop]; rfl
   by_cases hp:pos < s.size
   · have hnx:∀ ty,(Instr.next (.pointer (some ⟨w.heap.size,0,none⟩)) true ty).run Tryz.prog (w.iter s pos) = _:=fun ty => run_next_any w s pos ty hp
     have hd:=dec_pt s pos hp l hl;obtain ⟨r,hr⟩:∃ r,r = (Utf8.decode s pos).1:=⟨_,rfl⟩
     obtain ⟨n,hn⟩:∃ n,n = (Utf8.decode s pos).2:=⟨_,rfl⟩
     have hde:Utf8.decode s pos = (r,n):=by rw [hr,hn]
     rw [hde] at hd hnx;dsimp only at hd hnx;clear hr hn hde
     by_cases hz:ptL l = 0
     · rw [if_pos hz] at hd;obtain ⟨rfl,rfl⟩:=Prod.mk.inj hd;obtain rfl:q = false:=by rw [HQ.out]; exact utfB_bad l (by omega) hz
       have hc:Ret 119 #[.string s,.int .i64 (pos:Int),.int .i64 3] (.string (bs (l.take 3))):=fun w => by
         rw [hl];exact Oct.cut_yes s pos 3 w (by omega) (by decide) hp (by decide)
       have hne:(bs (l.take 3)) ≠ sRep:=fun h => by
         rw [pt_rep l (congrArg (fun x:ByteArray => x.data.toList) h)] at hz;cases hz
       have hn1:(!(bs (l.take 3)).toList == sRep.toList) = true:=str_ne_t hne;generalize bs (l.take 3) = X at hc hn1;unfold sRep at hn1;rw [toList_d ⟨#[239,191,189]⟩] at hn1;clear hd hz hne;go_wp2_with fail;refine hc.calls ?_;go_wp2_with fail;go_ret;exact ⟨rfl,Since.alloc H0.out _⟩
     · rw [if_neg hz] at hd;obtain ⟨hn,hr,hl3⟩:=hd;have hw1:1 <= n:=by omega
       have HQ2:Hid (q = utfB (s.data.toList.drop (pos + n))):=lH (by rw [HQ.out,utfB_step l (by omega) hz,hn,hl,List.drop_drop]);have hle:pos + n <= s.size:=by
         have:ptL l <= l.length:=by
           cases l with
           | nil => simp at hlen; omega
           | cons a t => exact pt_len a t
         omega
       by_cases h3:r = 65533
       · subst h3;have hc:Ret 119 #[.string s,.int .i64 (pos:Int),.int .i64 3] (.string sRep):=fun w => by
           have h9:=Oct.cut_yes s pos 3 w (by omega) (by decide) hp (by decide);rw [<- hl,take3 l (hr.1 rfl)] at h9;exact h9
         unfold sRep at hc;clear hn hr hl3 hz hl;go_wp2_with fail;refine hc.calls ?_;go_wp2_with fail;go_roundw
         case rel => exact ⟨pos + n,hle,rfl,HQ2⟩
         case measure => simp; omega
       · have t1:((r:Int) == 65533) = false:=by rw [beq_eq_false_iff_ne]; omega
         clear hn hr hl3 hz hl;go_wp2_with fail;go_roundw
         case rel => exact ⟨pos + n,hle,rfl,HQ2⟩
         case measure => simp; omega
   · have hnx:∀ ty,(Instr.next (.pointer (some ⟨w.heap.size,0,none⟩)) true ty).run Tryz.prog (w.iter s pos) = _:=fun ty => run_next_end w s pos ty hp
     obtain rfl:q = true:=by rw [HQ.out,List.eq_nil_of_length_eq_zero (show l.length = 0 by omega)]; rfl
     clear hl;go_wp2_with fail;go_ret;exact ⟨rfl,Since.alloc H0.out _⟩
end Utf
end Go.Proofs.YtpanhhjkecebkaaGreat
