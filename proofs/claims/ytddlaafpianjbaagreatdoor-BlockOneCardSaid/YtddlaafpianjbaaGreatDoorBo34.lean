import Derived.Test.YtddlaafpianjbaaGreatDoorBo31
import Derived.Test.YtddlaafpianjbaaGreatDoorBo12
import Derived.Laws.CopyOwn
set_option maxRecDepth 100000
namespace Go.Proofs.YtddlaafpianjbaaGreatDoor
open Go.RowKit
namespace Table
def dig (c:UInt8):Bool:=decide (48 <= c.toNat /\ c.toNat <= 57)
def num (l:List UInt8):Bool:=match l with
 | [a,b] => decide (49 <= a.toNat /\ a.toNat <= 57) && dig b
 | _ => false
def one (all s:List UInt8):Bool:=match s with
 | [c] => all.contains c
 | _ => false
def none3:List UInt8 × List UInt8 × List UInt8:=([],[],[])
def lineL (u:List UInt8):List UInt8 × List UInt8 × List UInt8:=if num u then rows.getD 10 none3 else if u = [] then none3 else (rows.find? (fun r => r.1 == u)).getD none3
theorem digit_ret (c:Nat) (hc:c <= 255) (q:Bool) (hq:q = decide (48 <= c /\ c <= 57)):Ret 136 #[.int .u8 (c:Int)] (.bool q):=by
 intro w
 subst hq
 by_cases h1:48 <= c
 · have t1:decide ((48:Int) <= (c:Int)) = true:=decide_eq_true (by omega)
   by_cases h2:c <= 57
   · have t2:decide ((c:Int) <= (57:Int)) = true:=decide_eq_true (by omega)
     rw [decide_eq_true ⟨h1,h2⟩]
     go_enter Tryz.func136,Tryz.ntmps136
     go_wp2_with fail
     go_ret
     exact ⟨rfl,rfl⟩
   · have t2:decide ((c:Int) <= (57:Int)) = false:=decide_eq_false (by omega)
     rw [decide_eq_false (fun h => h2 h.2)]
     go_enter Tryz.func136,Tryz.ntmps136
     go_wp2_with fail
     go_ret
     exact ⟨rfl,rfl⟩
 · have t1:decide ((48:Int) <= (c:Int)) = false:=decide_eq_false (by omega)
   rw [decide_eq_false (fun h => h1 h.1)]
   go_enter Tryz.func136,Tryz.ntmps136
   go_wp2_with fail
   go_ret
   exact ⟨rfl,rfl⟩
theorem number_len (s:ByteArray) (h:s.size ≠ 2):Ret 137 #[.string s] (.bool false):=by
 intro w
 have t1:((s.size:Int) == 2) = false:=by rw [beq_eq_false_iff_ne]; omega
 go_enter Tryz.func137,Tryz.ntmps137
 go_wp2_with fail
 go_ret
 exact ⟨rfl,rfl⟩
theorem number_two (s:ByteArray) (hz:s.size = 2) (h0:0 < s.size) (h1:1 < s.size) (p r x:Bool) (hx:((s[0].toNat:Int) != 48) = x) (c1:Ret 136 #[.int .u8 (s[0].toNat:Int)] (.bool p)) (c2:Ret 136 #[.int .u8 (s[1].toNat:Int)] (.bool r)):Ret 137 #[.string s] (.bool (x && p && r)):=by
 intro w
 have t1:((s.size:Int) == 2) = true:=by rw [beq_iff_eq]; omega
 cases x
 · go_enter Tryz.func137,Tryz.ntmps137
   go_wp2_with fail
   go_ret
   exact ⟨rfl,rfl⟩
 · cases p
   · go_enter Tryz.func137,Tryz.ntmps137
     go_wp2_with fail
     refine (c1).calls ?_
     go_wp2_with fail
     go_ret
     exact ⟨rfl,rfl⟩
   · go_enter Tryz.func137,Tryz.ntmps137
     go_wp2_with fail
     refine (c1).calls ?_
     go_wp2_with fail
     refine (c2).calls ?_
     go_wp2_with fail
     go_ret
     exact ⟨rfl,rfl⟩
theorem number_ret (s:ByteArray) (q:Bool) (hq:q = num s.data.toList):Ret 137 #[.string s] (.bool q):=by
 subst hq
 by_cases h:s.size = 2
 · obtain ⟨a,b,hs⟩:∃ a b,s.data.toList = [a,b]:=by
     have h2:s.data.toList.length = 2:=h
     match hl:s.data.toList,h2 with
     | [a,b],_ => exact ⟨a,b,rfl⟩
   obtain rfl:s = ⟨#[a,b]⟩:=ba_ext hs
   have ha:=a.toNat_lt
   have hb:=b.toNat_lt
   have h9:=number_two ⟨#[a,b]⟩ rfl (show 0 < 2 by decide) (show 1 < 2 by decide) _ _ _ rfl (digit_ret a.toNat (by omega) _ rfl) (digit_ret b.toNat (by omega) _ rfl)
   have e:num [a,b] = (((a.toNat:Int) != 48) && decide (48 <= a.toNat /\ a.toNat <= 57) && decide (48 <= b.toNat /\ b.toNat <= 57)):=by
     show (decide (49 <= a.toNat /\ a.toNat <= 57) && decide (48 <= b.toNat /\ b.toNat <= 57)) = _
     congr 1
     rw [Bool.eq_iff_iff,decide_eq_true_iff,Bool.and_eq_true,decide_eq_true_iff,bne_iff_ne]
     omega
   show Ret _ _ (.bool (num [a,b]))
   rw [e]
   exact h9
 · have e:num s.data.toList = false:=by
     have h2:s.data.toList.length ≠ 2:=h
     unfold num
     split
     · rename_i hl; rw [hl] at h2; exact absurd rfl h2
     · rfl
   rw [e]
   exact number_len s h
theorem contains_ret (s:ByteArray) (c:UInt8) (q:Bool) (hq:q = s.data.toList.contains c):Ret 173 #[.string s,.string ⟨#[c]⟩] (.bool q):=by
 obtain ⟨p,hp⟩:∃ p,Lib.indexByte s.data.toList c = p:=⟨_,rfl⟩
 have c0:=Cut.index_ret s c p hp
 have c1:Ret 202 #[.string s,.string ⟨#[c]⟩] (.int .i64 p):=by
   intro w
   go_enter Tryz.func202,Tryz.ntmps202
   go_wp2_with fail
   refine (c0).calls ?_
   go_wp2_with fail
   go_ret
   exact ⟨rfl,rfl⟩
 have ht:decide (0 <= p) = q:=by
   rw [hq,<- hp]
   clear hq hp c0 c1
   induction s.data.toList with
   | nil => rfl
   | cons b l ih =>
     unfold Lib.indexByte
     by_cases hb:b = c
     · subst hb
       rw [if_pos (beq_self_eq_true b)]
       simp
     · rw [if_neg (by simpa using hb),List.contains_cons]
       have hb2:(c == b) = false:=by rw [beq_eq_false_iff_ne]; exact fun h => hb h.symm
       rw [hb2,Bool.false_or,<- ih]
       by_cases h1:(Lib.indexByte l c == -1) = true
       · rw [if_pos h1]
         rw [beq_iff_eq] at h1
         rw [h1]
       · rw [if_neg h1]
         have:-1 <= Lib.indexByte l c:=Lib.indexByte_ge l c
         rw [beq_iff_eq] at h1
         rw [decide_eq_true (show 0 <= Lib.indexByte l c + 1 by omega),decide_eq_true (show 0 <= Lib.indexByte l c by omega)]
 clear hq hp c0
 intro w
 go_enter Tryz.func173,Tryz.ntmps173
 go_wp2_with fail
 refine (c1).calls ?_
 go_wp2_with fail
 go_ret
 exact ⟨rfl,rfl⟩
theorem one_len (t s:ByteArray) (h:s.size ≠ 1):Ret 134 #[.string t,.string s] (.bool false):=by
 intro w
 have t1:((s.size:Int) == 1) = false:=by rw [beq_eq_false_iff_ne]; omega
 go_enter Tryz.func134,Tryz.ntmps134
 go_wp2_with fail
 go_ret
 exact ⟨rfl,rfl⟩
theorem one_one (t:ByteArray) (c:UInt8) (q:Bool) (c1:Ret 173 #[.string t,.string ⟨#[c]⟩] (.bool q)):Ret 134 #[.string t,.string ⟨#[c]⟩] (.bool q):=by
 intro w
 go_enter Tryz.func134,Tryz.ntmps134
 go_wp2_with fail
 refine (c1).calls ?_
 go_wp2_with fail
 go_ret
 exact ⟨rfl,rfl⟩
theorem one_ret (t s:ByteArray) (q:Bool) (hq:q = one t.data.toList s.data.toList):Ret 134 #[.string t,.string s] (.bool q):=by
 subst hq
 by_cases h:s.size = 1
 · obtain ⟨a,hs⟩:∃ a,s.data.toList = [a]:=by
     have h2:s.data.toList.length = 1:=h
     match hl:s.data.toList,h2 with
     | [a],_ => exact ⟨a,rfl⟩
   obtain rfl:s = ⟨#[a]⟩:=ba_ext hs
   exact one_one t a _ (contains_ret t a _ rfl)
 · have e:one t.data.toList s.data.toList = false:=by
     have h2:s.data.toList.length ≠ 1:=h
     unfold one
     split
     · rename_i hl; rw [hl] at h2; exact absurd rfl h2
     · rfl
   rw [e]
   exact one_len t s h
set_option maxHeartbeats 1000000 in
theorem by_num (u:ByteArray) (x y z:ByteArray) (hr:rows[10]? = some (x.data.toList,y.data.toList,z.data.toList)) (c1:Ret 137 #[.string u] (.bool true)):KMk Tabs 135 #[.string u] (.agg #[.string x,.string y,.string z]):=by
 intro w hT
 have HT:=lH hT
 have m0:w.cell? ⟨1,30,none⟩ = some (.string x):=by have:=hT 10 _ hr 0 _ rfl; rw [<- bs_list x]; exact this
 have m1:w.cell? ⟨1,31,none⟩ = some (.string y):=by have:=hT 10 _ hr 1 _ rfl; rw [<- bs_list y]; exact this
 have m2:w.cell? ⟨1,32,none⟩ = some (.string z):=by have:=hT 10 _ hr 2 _ rfl; rw [<- bs_list z]; exact this
 have hlt:=hT.lt
 clear hT hr
 go_enter Tryz.func135,Tryz.ntmps135
 go_wp2_with fail
 refine (c1).calls ?_
 go_wp2_with fail
 exact bodyPost_ret (v:=.agg #[.string x,.string y,.string z]) (by simp [results,Tryz.results135,go_sem]; try rfl) rfl ⟨rfl,(Below.refl _ w).alloc (Nat.le_refl _) _⟩
theorem find_at {α:Type} (p:α -> Bool):∀ (l:List α) (k:Nat) (r:α),l[k]? = some r -> p r = true -> (∀ j r',j < k -> l[j]? = some r' -> p r' = false) -> l.find? p = some r:=by
 intro l
 induction l with
 | nil => intro k r h; simp at h
 | cons a l ih =>
   intro k r h hp hn
   cases k with
   | zero =>
     simp at h
     subst h
     rw [List.find?_cons,hp]
   | succ k =>
     rw [List.find?_cons,hn 0 a (by omega) rfl]
     exact ih k r (by simpa using h) hp (fun j r' hj h' => hn (j + 1) r' (by omega) (by simpa using h'))
theorem str_beq (p q:ByteArray) (c:Bool) (h:(p.data.toList == q.data.toList) = c):(p.toList == q.toList) = c:=by rw [toList_d,toList_d]; exact h
theorem line_info (x y z:Value):(Tryz.prog.info? 149).map (·.size) = some (#[x,y,z]:Array Value).size:=by kernel_rfl
theorem line_one (x y z:ByteArray):(#[.string x,.string y,.string z]:Array Value).all (·.oneCell') = true:=by
 rw [Array.all_eq_true]
 intro i hi
 match i,hi with
 | 0,_ | 1,_ | 2,_ => rfl
set_option maxHeartbeats 4000000 in
theorem by_find (u x y z:ByteArray) (hu:0 < u.size) (hr:(rows.find? (fun r => r.1 == u.data.toList)).getD none3 = (x.data.toList,y.data.toList,z.data.toList)) (c1:Ret 137 #[.string u] (.bool false)):KMk Tabs 135 #[.string u] (.agg #[.string x,.string y,.string z]):=by
 intro w hT
 have hlt:=hT.lt
 have HS:=lH (Since.alloc (Since.refl w) (.cells #[.string ⟨#[]⟩,.string ⟨#[]⟩,.string ⟨#[]⟩] 149))
 have hl:=load_all (Kp.keep hT HS.out)
 obtain ⟨D,hD⟩:∃ D,D = cells:=⟨_,rfl⟩
 rw [<- hD] at hl
 have HX:Hid (∀ (i:Nat) r,rows[i]? = some r -> ∀ W,(Instr.index 181 (.agg D) (.int .i64 (i:Int))).run Tryz.prog W = .ok (.agg #[.string (bs r.1),.string (bs r.2.1),.string (bs r.2.2)]) W):=lH (fun i r h W => by rw [hD]; exact index_at i r h W)
 have b1:=some_bytes u hu
 have b2:=some_bytes_f u hu
 have HR:=lH hr
 clear hT hr hD
 have Hl:=lH hl
 clear hl
 go_enter Tryz.func135,Tryz.ntmps135
 go_wp2_with fail
 refine c1.calls ?_
 go_wp2_with ((with_reducible refine wpList_load_run _ _ _ _ (.agg D) ?_ Hl.out ?_) <;> try rfl)
 go_loopw [10] (fun i wr => ∃ k:Nat,k <= 11 /\ i = .int .i64 (k:Int) /\ Hid (∀ j r,j < k -> rows[j]? = some r -> (r.1 == u.data.toList) = false) /\ Hid (Since (w.alloc (.cells #[.string ⟨#[]⟩,.string ⟨#[]⟩,.string ⟨#[]⟩] 149)) wr)) (fun i _ => 11 - (intOf i).toNat)
 case atStart => exact ⟨0,by omega,rfl,lH (fun j r h => by omega),lH (Since.refl _)⟩
 case round =>
   obtain ⟨k,hk,rfl,HN,HI⟩:=hrel
   have hB:=lH (((Below.block HI.out w.heap.size (by simp)).trans (heap_alloc_new w _)))
   have hsz:w.heap.size < wr.heap.size:=Nat.lt_of_lt_of_le (by simp) (Below.size HI.out)
   by_cases hlt2:k < 11
   · obtain ⟨r,hr⟩:∃ r,rows[k]? = some r:=⟨rows[k]'hlt2,List.getElem?_eq_getElem _⟩
     have hix:=HX.out k r hr
     obtain ⟨q,hq⟩:∃ q,(r.1 == u.data.toList) = q:=⟨_,rfl⟩
     have t1:((bs r.1).toList == u.toList) = q:=str_beq _ _ _ hq
     cases q
     · have HN2:Hid (∀ j r,j < k + 1 -> rows[j]? = some r -> (r.1 == u.data.toList) = false):=lH (fun j r' h h2 => by
         by_cases hj:j = k
         · subst hj
           rw [hr] at h2
           cases h2
           exact hq
         · exact HN.out j r' (by omega) h2)
       clear hr hq
       go_wp2_with fail
       go_roundw
       case rel => exact ⟨k + 1,by omega,by go_num,HN2,lH (HI.out.alloc _)⟩
       case measure => simp [intOf]; omega
     · have hx:r = (x.data.toList,y.data.toList,z.data.toList):=by
         rw [<- HR.out,find_at _ rows k r hr hq HN.out]
         rfl
       have e0:bs r.1 = x:=by rw [hx]; exact bs_list x
       have e1:bs r.2.1 = y:=by rw [hx]; exact bs_list y
       have e2:bs r.2.2 = z:=by rw [hx]; exact bs_list z
       rw [e0,e1,e2] at hix
       rw [e0] at t1
       have hB2:=lH (show (wr.alloc (.cells #[.string x,.string y,.string z] 149)).heap[w.heap.size]? = _ from (Go.heap_alloc_old _ _ hsz).trans hB.out)
       clear hr hq hx e0 e1 e2
       go_wp2_with (refine wpList_store_row rfl 149 _ _ rfl w.heap.size #[.string x,.string y,.string z] (by rfl) (by rfl) _ _ hB2.out (line_info _ _ _) rfl (line_one _ _ _) ?_)
       exact bodyPost_ret (v:=.agg #[.string x,.string y,.string z]) (results_cell_row Tryz.results135 _ _ _ _ _ _ _ rfl (setRow_heap _ _ _ _ _ _ hB2.out) Tryz.underlying149 rfl (by kernel_rfl)) rfl ⟨rfl,below_setRow (((Since.alloc (Since.refl w) _).step HI.out).alloc _) (Nat.le_refl _) _⟩
   · obtain rfl:k = 11:=by omega
     have hn:(x.data.toList,y.data.toList,z.data.toList) = none3:=by
       rw [<- HR.out]
       have:rows.find? (fun r => r.1 == u.data.toList) = none:=by
         rw [List.find?_eq_none]
         intro r hr
         obtain ⟨j,hj,hj2⟩:=List.getElem_of_mem hr
         rw [HN.out j r hj (by rw [List.getElem?_eq_getElem hj,hj2])]
         decide
       rw [this]; rfl
     have e0:x = ⟨#[]⟩:=ba_ext (congrArg (·.1) hn)
     have e1:y = ⟨#[]⟩:=ba_ext (congrArg (·.2.1) hn)
     have e2:z = ⟨#[]⟩:=ba_ext (congrArg (·.2.2) hn)
     subst e0 e1 e2
     clear hn
     go_wp2_with (refine wpList_store_row rfl 149 _ _ rfl w.heap.size #[.string ⟨#[]⟩,.string ⟨#[]⟩,.string ⟨#[]⟩] (by rfl) (by rfl) _ _ hB.out (line_info _ _ _) rfl (line_one _ _ _) ?_)
     exact bodyPost_ret (v:=.agg #[.string ⟨#[]⟩,.string ⟨#[]⟩,.string ⟨#[]⟩]) (results_cell_row Tryz.results135 _ _ _ _ _ _ _ rfl (setRow_heap _ _ _ _ _ _ hB.out) Tryz.underlying149 rfl (by kernel_rfl)) rfl ⟨rfl,below_setRow ((Since.alloc (Since.refl w) _).step HI.out) (Nat.le_refl _) _⟩
end Table
namespace Table
theorem by_empty (c1:Ret 137 #[.string ⟨#[]⟩] (.bool false)):KMk Tabs 135 #[.string ⟨#[]⟩] (.agg #[.string ⟨#[]⟩,.string ⟨#[]⟩,.string ⟨#[]⟩]):=by
 intro w hT
 have hlt:=hT.lt
 have HS:=lH (Since.alloc (Since.refl w) (.cells #[.string ⟨#[]⟩,.string ⟨#[]⟩,.string ⟨#[]⟩] 149))
 have hl:=load_all (Kp.keep hT HS.out)
 obtain ⟨D,hD⟩:∃ D,D = cells:=⟨_,rfl⟩
 rw [<- hD] at hl
 have HX:Hid (∀ (i:Nat) r,rows[i]? = some r -> ∀ W,(Instr.index 181 (.agg D) (.int .i64 (i:Int))).run Tryz.prog W = .ok (.agg #[.string (bs r.1),.string (bs r.2.1),.string (bs r.2.2)]) W):=lH (fun i r h W => by rw [hD]; exact index_at i r h W)
 have Hl:=lH hl
 clear hT hD hl
 go_enter Tryz.func135,Tryz.ntmps135
 go_wp2_with fail
 refine c1.calls ?_
 go_wp2_with ((with_reducible refine wpList_load_run _ _ _ _ (.agg D) ?_ Hl.out ?_) <;> try rfl)
 go_loopw [10] (fun i wr => ∃ k:Nat,k <= 11 /\ i = .int .i64 (k:Int) /\ Hid (Since (w.alloc (.cells #[.string ⟨#[]⟩,.string ⟨#[]⟩,.string ⟨#[]⟩] 149)) wr)) (fun i _ => 11 - (intOf i).toNat)
 case atStart => exact ⟨0,by omega,rfl,lH (Since.refl _)⟩
 case round =>
   obtain ⟨k,hk,rfl,HI⟩:=hrel
   have hB:=lH (((Below.block HI.out w.heap.size (by simp)).trans (heap_alloc_new w _)))
   by_cases hlt2:k < 11
   · obtain ⟨r,hr⟩:∃ r,rows[k]? = some r:=⟨rows[k]'hlt2,List.getElem?_eq_getElem _⟩
     have hix:=HX.out k r hr
     clear hr
     go_wp2_with fail
     go_roundw
     case rel => exact ⟨k + 1,by omega,by go_num,lH (HI.out.alloc _)⟩
     case measure => simp [intOf]; omega
   · obtain rfl:k = 11:=by omega
     go_wp2_with (refine wpList_store_row rfl 149 _ _ rfl w.heap.size #[.string ⟨#[]⟩,.string ⟨#[]⟩,.string ⟨#[]⟩] (by rfl) (by rfl) _ _ hB.out (line_info _ _ _) rfl (line_one _ _ _) ?_)
     exact bodyPost_ret (v:=.agg #[.string ⟨#[]⟩,.string ⟨#[]⟩,.string ⟨#[]⟩]) (results_cell_row Tryz.results135 _ _ _ _ _ _ _ rfl (setRow_heap _ _ _ _ _ _ hB.out) Tryz.underlying149 rfl (by kernel_rfl)) rfl ⟨rfl,below_setRow ((Since.alloc (Since.refl w) _).step HI.out) (Nat.le_refl _) _⟩
def lineV (u:List UInt8):Value:=.agg #[.string (bs (lineL u).1),.string (bs (lineL u).2.1),.string (bs (lineL u).2.2)]
theorem by_k (u:ByteArray):KMk Tabs 135 #[.string u] (lineV u.data.toList):=by
 have c1:=number_ret u _ rfl
 unfold lineV
 cases hn:num u.data.toList with
 | true =>
   rw [hn] at c1
   exact by_num u _ _ _ (by unfold lineL; rw [hn]; rfl) c1
 | false =>
   rw [hn] at c1
   by_cases hu:0 < u.size
   · refine by_find u _ _ _ hu ?_ c1
     have hne:u.data.toList ≠ []:=fun h => by
       have h8:u.data.toList.length = u.size:=rfl
       rw [h] at h8
       have h9:([]:List UInt8).length = 0:=rfl
       omega
     simp only [list_bs]
     unfold lineL
     rw [hn,if_neg (by decide),if_neg hne]
   · obtain rfl:u = ⟨#[]⟩:=ba_ext (List.eq_nil_of_length_eq_zero (by have h8:u.size = u.data.toList.length:=rfl; omega))
     exact by_empty c1
theorem fld0 (x y z:Value) (w:World):(Instr.field 149 (.agg #[x,y,z]) 0).run Tryz.prog w = .ok x w:=by kernel_rfl
theorem fld1 (x y z:Value) (w:World):(Instr.field 149 (.agg #[x,y,z]) 1).run Tryz.prog w = .ok y w:=by kernel_rfl
theorem fld2 (x y z:Value) (w:World):(Instr.field 149 (.agg #[x,y,z]) 2).run Tryz.prog w = .ok z w:=by kernel_rfl
theorem usage_core (u l x y z:ByteArray) (q:Bool) (c1:KMk Tabs 135 #[.string u] (.agg #[.string x,.string y,.string z])) (c2:Ret 134 #[.string y,.string l] (.bool q)):KMk Tabs 93 #[.string u,.string l] (.bool q):=by
 intro w hT
 have HS:=lH (Since.refl w)
 have HT:=lH hT
 have f0:=fld0 (.string x) (.string y) (.string z)
 have f1:=fld1 (.string x) (.string y) (.string z)
 have f2:=fld2 (.string x) (.string y) (.string z)
 clear hT
 go_enter Tryz.func93,Tryz.ntmps93
 go_wp2_with fail
 repeat (first | (with_reducible refine c1.calls0 HT.out ?_; intro wz hz; replace HT:=lH (Kp.keep HT.out hz); replace HS:=lH (HS.out.step hz); clear hz; try go_wp2_with fail) | (with_reducible refine c2.calls ?_; try go_wp2_with fail))
 go_ret
 exact ⟨rfl,HS.out⟩
theorem mode_core (u l x y z:ByteArray) (q:Bool) (c1:KMk Tabs 135 #[.string u] (.agg #[.string x,.string y,.string z])) (c2:Ret 134 #[.string z,.string l] (.bool q)):KMk Tabs 94 #[.string u,.string l] (.bool q):=by
 intro w hT
 have HS:=lH (Since.refl w)
 have HT:=lH hT
 have f0:=fld0 (.string x) (.string y) (.string z)
 have f1:=fld1 (.string x) (.string y) (.string z)
 have f2:=fld2 (.string x) (.string y) (.string z)
 clear hT
 go_enter Tryz.func94,Tryz.ntmps94
 go_wp2_with fail
 repeat (first | (with_reducible refine c1.calls0 HT.out ?_; intro wz hz; replace HT:=lH (Kp.keep HT.out hz); replace HS:=lH (HS.out.step hz); clear hz; try go_wp2_with fail) | (with_reducible refine c2.calls ?_; try go_wp2_with fail))
 go_ret
 exact ⟨rfl,HS.out⟩
theorem usage_k (u l:ByteArray) (q:Bool) (hq:q = one (lineL u.data.toList).2.1 l.data.toList):KMk Tabs 93 #[.string u,.string l] (.bool q):=usage_core u l _ _ _ q (by_k u) (one_ret _ l q hq)
theorem mode_k (u l:ByteArray) (q:Bool) (hq:q = one (lineL u.data.toList).2.2 l.data.toList):KMk Tabs 94 #[.string u,.string l] (.bool q):=mode_core u l _ _ _ q (by_k u) (one_ret _ l q hq)
def verB (v:List UInt8):Bool:=match v with
 | [a,b] => if a = 99 then dig b && b != 48 else v == [48,48] || num v
 | _ => false
theorem version_len (s:ByteArray) (h:s.size ≠ 2) (p q:Bool) (hp:(s.data.toList == [48,48]) = p) (c1:Ret 137 #[.string s] (.bool q)):Ret 95 #[.string s] (.bool (p || q)):=by
 intro w
 have t1:((s.size:Int) == 2) = false:=by rw [beq_eq_false_iff_ne]; omega
 have t2:(s.toList == [48,48]) = p:=by rw [toList_d]; exact hp
 clear hp
 cases p
 all_goals
   go_enter Tryz.func95,Tryz.ntmps95
   go_wp2_with fail
   repeat (with_reducible refine c1.calls ?_; try go_wp2_with fail)
   go_ret
   exact ⟨rfl,rfl⟩
theorem version_c (s:ByteArray) (hz:s.size = 2) (h0:0 < s.size) (h1:1 < s.size) (p x:Bool) (hc:((s[0].toNat:Int) == 99) = true) (hx:((s[1].toNat:Int) != 48) = x) (c1:Ret 136 #[.int .u8 (s[1].toNat:Int)] (.bool p)):Ret 95 #[.string s] (.bool (p && x)):=by
 intro w
 have t1:((s.size:Int) == 2) = true:=by rw [beq_iff_eq]; omega
 cases p
 all_goals
   go_enter Tryz.func95,Tryz.ntmps95
   go_wp2_with fail
   repeat (with_reducible refine c1.calls ?_; try go_wp2_with fail)
   go_ret
   exact ⟨rfl,rfl⟩
theorem version_n (s:ByteArray) (hz:s.size = 2) (h0:0 < s.size) (_h1:1 < s.size) (p q:Bool) (hc:((s[0].toNat:Int) == 99) = false) (hp:(s.data.toList == [48,48]) = p) (c1:Ret 137 #[.string s] (.bool q)):Ret 95 #[.string s] (.bool (p || q)):=by
 intro w
 have t1:((s.size:Int) == 2) = true:=by rw [beq_iff_eq]; omega
 have t2:(s.toList == [48,48]) = p:=by rw [toList_d]; exact hp
 clear hp
 cases p
 all_goals
   go_enter Tryz.func95,Tryz.ntmps95
   go_wp2_with fail
   repeat (with_reducible refine c1.calls ?_; try go_wp2_with fail)
   go_ret
   exact ⟨rfl,rfl⟩
theorem version_ret (s:ByteArray) (q:Bool) (hq:q = verB s.data.toList):Ret 95 #[.string s] (.bool q):=by
 subst hq
 by_cases h:s.size = 2
 · obtain ⟨a,b,hs⟩:∃ a b,s.data.toList = [a,b]:=by
     have h2:s.data.toList.length = 2:=h
     match hl:s.data.toList,h2 with
     | [a,b],_ => exact ⟨a,b,rfl⟩
   obtain rfl:s = ⟨#[a,b]⟩:=ba_ext hs
   have ha:=a.toNat_lt
   have hb:=b.toNat_lt
   show Ret _ _ (.bool (verB [a,b]))
   by_cases hc:a = 99
   · have e:verB [a,b] = (dig b && ((b.toNat:Int) != 48)):=by
       show (if a = 99 then dig b && b != 48 else [a,b] == [48,48] || num [a,b]) = _
       rw [if_pos hc]
       congr 1
       rw [Bool.eq_iff_iff,bne_iff_ne,bne_iff_ne]
       exact not_congr ⟨fun h => by rw [h]; rfl,fun h => UInt8.toNat_inj.1 (by show b.toNat = 48; omega)⟩
     rw [e]
     exact version_c ⟨#[a,b]⟩ rfl (show 0 < 2 by decide) (show 1 < 2 by decide) _ _ (show ((a.toNat:Int) == 99) = true by rw [hc]; rfl) rfl (digit_ret b.toNat (by omega) _ rfl)
   · have e:verB [a,b] = (([a,b] == [48,48]) || num [a,b]):=by
       show (if a = 99 then dig b && b != 48 else [a,b] == [48,48] || num [a,b]) = _
       rw [if_neg hc]
     rw [e]
     exact version_n ⟨#[a,b]⟩ rfl (show 0 < 2 by decide) (show 1 < 2 by decide) _ _ (show ((a.toNat:Int) == 99) = false by rw [beq_eq_false_iff_ne]; exact fun h => hc (UInt8.toNat_inj.1 (by show a.toNat = 99; omega))) rfl (number_ret _ _ rfl)
 · have h2:s.data.toList.length ≠ 2:=h
   have e:verB s.data.toList = false:=by
     unfold verB
     split
     · rename_i hl; rw [hl] at h2; exact absurd rfl h2
     · rfl
   have e1:(s.data.toList == [48,48]) = false:=by rw [beq_eq_false_iff_ne]; intro h3; rw [h3] at h2; exact absurd rfl h2
   have e2:num s.data.toList = false:=by
     unfold num
     split
     · rename_i hl; rw [hl] at h2; exact absurd rfl h2
     · rfl
   rw [e]
   have c1:=number_ret s _ rfl
   rw [e2] at c1
   exact version_len s h false false e1 c1
theorem export_ret (s:ByteArray) (q:Bool) (hq:q = one [69,78,83] s.data.toList):Ret 96 #[.string s] (.bool q):=by
 intro w
 have c1:Ret 134 #[.string ⟨#[69,78,83]⟩,.string s] (.bool q):=one_ret _ s q hq
 clear hq
 go_enter Tryz.func96,Tryz.ntmps96
 go_wp2_with fail
 repeat (with_reducible refine c1.calls ?_; try go_wp2_with fail)
 go_ret
 exact ⟨rfl,rfl⟩
end Table
namespace Table
def okB (u m v e l:List UInt8):Bool:=one (lineL u).2.1 l && one (lineL u).2.2 m && verB v && one [69,78,83] e
set_option maxHeartbeats 1000000 in
theorem check_core (u m v e l:ByteArray) (q1 q2 q3 q4:Bool) (c1:KMk Tabs 93 #[.string u,.string l] (.bool q1)) (c2:KMk Tabs 94 #[.string u,.string m] (.bool q2)) (c3:Ret 95 #[.string v] (.bool q3)) (c4:Ret 96 #[.string e] (.bool q4)) (x:Int) (hx:(if q1 && q2 && q3 && q4 then 0 else 12) = x) :
   KMk Tabs 52 #[.agg #[.string u,.string m,.string v,.string e],.string l] (.int .i64 x):=by
 intro w hT
 have HS:=lH (Since.alloc (Since.refl w) (.cells #[.string u,.string m,.string v,.string e] 24))
 have HT:=lH (Kp.keep hT HS.out)
 have m0:(w.alloc (.cells #[.string u,.string m,.string v,.string e] 24)).cell? ⟨w.heap.size,0,none⟩ = some (.string u):=World.cell?_alloc_new _ _ _ _
 have m1:(w.alloc (.cells #[.string u,.string m,.string v,.string e] 24)).cell? ⟨w.heap.size,1,none⟩ = some (.string m):=World.cell?_alloc_new _ _ _ _
 have m2:(w.alloc (.cells #[.string u,.string m,.string v,.string e] 24)).cell? ⟨w.heap.size,2,none⟩ = some (.string v):=World.cell?_alloc_new _ _ _ _
 have m3:(w.alloc (.cells #[.string u,.string m,.string v,.string e] 24)).cell? ⟨w.heap.size,3,none⟩ = some (.string e):=World.cell?_alloc_new _ _ _ _
 have hg:w.heap.size < (w.alloc (.cells #[.string u,.string m,.string v,.string e] 24)).heap.size:=by simp
 clear hT
 cases q1
 · obtain rfl:x = 12:=hx.symm
   clear hx
   go_enter Tryz.func52,Tryz.ntmps52
   go_wp2_with fail
   repeat (with_reducible refine c1.calls0 HT.out ?_; intro wz hz; replace m0:=(Below.cell hz (by exact hg)).trans m0; replace m1:=(Below.cell hz (by exact hg)).trans m1; replace m2:=(Below.cell hz (by exact hg)).trans m2; replace m3:=(Below.cell hz (by exact hg)).trans m3; replace hg:=Nat.lt_of_lt_of_le hg (Below.size hz); replace HT:=lH (Kp.keep HT.out hz); replace HS:=lH (HS.out.step hz); clear hz; try go_wp2_with fail)
   go_ret
   exact ⟨rfl,HS.out⟩
 · cases q2
   · obtain rfl:x = 12:=hx.symm
     clear hx
     go_enter Tryz.func52,Tryz.ntmps52
     go_wp2_with fail
     repeat ((first | with_reducible refine c1.calls0 HT.out ?_ | with_reducible refine c2.calls0 HT.out ?_); intro wz hz; replace m0:=(Below.cell hz (by exact hg)).trans m0; replace m1:=(Below.cell hz (by exact hg)).trans m1; replace m2:=(Below.cell hz (by exact hg)).trans m2; replace m3:=(Below.cell hz (by exact hg)).trans m3; replace hg:=Nat.lt_of_lt_of_le hg (Below.size hz); replace HT:=lH (Kp.keep HT.out hz); replace HS:=lH (HS.out.step hz); clear hz; try go_wp2_with fail)
     go_ret
     exact ⟨rfl,HS.out⟩
   · cases q3
     · obtain rfl:x = 12:=hx.symm
       clear hx
       go_enter Tryz.func52,Tryz.ntmps52
       go_wp2_with fail
       repeat (first | ((first | with_reducible refine c1.calls0 HT.out ?_ | with_reducible refine c2.calls0 HT.out ?_); intro wz hz; replace m0:=(Below.cell hz (by exact hg)).trans m0; replace m1:=(Below.cell hz (by exact hg)).trans m1; replace m2:=(Below.cell hz (by exact hg)).trans m2; replace m3:=(Below.cell hz (by exact hg)).trans m3; replace hg:=Nat.lt_of_lt_of_le hg (Below.size hz); replace HT:=lH (Kp.keep HT.out hz); replace HS:=lH (HS.out.step hz); clear hz; try go_wp2_with fail) | (with_reducible refine c3.calls ?_; try go_wp2_with fail))
       go_ret
       exact ⟨rfl,HS.out⟩
     · cases q4
       · obtain rfl:x = 12:=hx.symm
         clear hx
         go_enter Tryz.func52,Tryz.ntmps52
         go_wp2_with fail
         repeat (first | ((first | with_reducible refine c1.calls0 HT.out ?_ | with_reducible refine c2.calls0 HT.out ?_); intro wz hz; replace m0:=(Below.cell hz (by exact hg)).trans m0; replace m1:=(Below.cell hz (by exact hg)).trans m1; replace m2:=(Below.cell hz (by exact hg)).trans m2; replace m3:=(Below.cell hz (by exact hg)).trans m3; replace hg:=Nat.lt_of_lt_of_le hg (Below.size hz); replace HT:=lH (Kp.keep HT.out hz); replace HS:=lH (HS.out.step hz); clear hz; try go_wp2_with fail) | ((first | with_reducible refine c3.calls ?_ | with_reducible refine c4.calls ?_); try go_wp2_with fail))
         go_ret
         exact ⟨rfl,HS.out⟩
       · obtain rfl:x = 0:=hx.symm
         clear hx
         go_enter Tryz.func52,Tryz.ntmps52
         go_wp2_with fail
         repeat (first | ((first | with_reducible refine c1.calls0 HT.out ?_ | with_reducible refine c2.calls0 HT.out ?_); intro wz hz; replace m0:=(Below.cell hz (by exact hg)).trans m0; replace m1:=(Below.cell hz (by exact hg)).trans m1; replace m2:=(Below.cell hz (by exact hg)).trans m2; replace m3:=(Below.cell hz (by exact hg)).trans m3; replace hg:=Nat.lt_of_lt_of_le hg (Below.size hz); replace HT:=lH (Kp.keep HT.out hz); replace HS:=lH (HS.out.step hz); clear hz; try go_wp2_with fail) | ((first | with_reducible refine c3.calls ?_ | with_reducible refine c4.calls ?_); try go_wp2_with fail))
         go_ret
         exact ⟨rfl,HS.out⟩
theorem check_k (u m v e l:ByteArray) (x:Int) (hx:x = if okB u.data.toList m.data.toList v.data.toList e.data.toList l.data.toList then 0 else 12):KMk Tabs 52 #[.agg #[.string u,.string m,.string v,.string e],.string l] (.int .i64 x):=by
 subst hx
 exact check_core u m v e l _ _ _ _ (usage_k u l _ rfl) (mode_k u m _ rfl) (version_ret v _ rfl) (export_ret e _ rfl) _ rfl
end Table
namespace Table
theorem rown_len (s:ByteArray) (h:s.size ≠ 2):Ret 91 #[.string s] (.bool false):=by
 intro w
 have t1:((s.size:Int) == 2) = false:=by rw [beq_eq_false_iff_ne]; omega
 go_enter Tryz.func91,Tryz.ntmps91
 go_wp2_with fail
 go_ret
 exact ⟨rfl,rfl⟩
theorem rown_two (s:ByteArray) (hz:s.size = 2) (h0:0 < s.size) (h1:1 < s.size) (p q r x:Bool) (k1:decide ((49:Int) <= (s[0].toNat:Int)) = p) (k2:decide ((s[0].toNat:Int) <= 57) = q) (k3:decide ((48:Int) <= (s[1].toNat:Int)) = r) (k4:decide ((s[1].toNat:Int) <= 57) = x):Ret 91 #[.string s] (.bool (p && q && r && x)):=by
 intro w
 have t1:((s.size:Int) == 2) = true:=by rw [beq_iff_eq]; omega
 cases p
 · go_enter Tryz.func91,Tryz.ntmps91
   go_wp2_with fail
   go_ret
   exact ⟨rfl,rfl⟩
 · cases q
   · go_enter Tryz.func91,Tryz.ntmps91
     go_wp2_with fail
     go_ret
     exact ⟨rfl,rfl⟩
   · cases r
     · go_enter Tryz.func91,Tryz.ntmps91
       go_wp2_with fail
       go_ret
       exact ⟨rfl,rfl⟩
     · go_enter Tryz.func91,Tryz.ntmps91
       go_wp2_with fail
       go_ret
       exact ⟨rfl,rfl⟩
theorem rown_ret (s:ByteArray) (q:Bool) (hq:q = num s.data.toList):Ret 91 #[.string s] (.bool q):=by
 subst hq
 by_cases h:s.size = 2
 · obtain ⟨a,b,hs⟩:∃ a b,s.data.toList = [a,b]:=by
     have h2:s.data.toList.length = 2:=h
     match hl:s.data.toList,h2 with
     | [a,b],_ => exact ⟨a,b,rfl⟩
   obtain rfl:s = ⟨#[a,b]⟩:=ba_ext hs
   have h9:=rown_two ⟨#[a,b]⟩ rfl (show 0 < 2 by decide) (show 1 < 2 by decide) _ _ _ _ rfl rfl rfl rfl
   have e:num [a,b] = (decide ((49:Int) <= (a.toNat:Int)) && decide ((a.toNat:Int) <= 57) && decide ((48:Int) <= (b.toNat:Int)) && decide ((b.toNat:Int) <= 57)):=by
     show (decide (49 <= a.toNat /\ a.toNat <= 57) && decide (48 <= b.toNat /\ b.toNat <= 57)) = _
     rw [Bool.eq_iff_iff]
     simp only [Bool.and_eq_true,decide_eq_true_iff]
     omega
   show Ret _ _ (.bool (num [a,b]))
   rw [e]
   exact h9
 · have e:num s.data.toList = false:=by
     have h2:s.data.toList.length ≠ 2:=h
     unfold num
     split
     · rename_i hl; rw [hl] at h2; exact absurd rfl h2
     · rfl
   rw [e]
   exact rown_len s h
def keys:List (List UInt8):=[[66,48],[68,48],[68,49],[75,48],[75,49],[77,51],[77,54],[77,55],[80,48],[83,48]]
theorem line_none (u:List UInt8) (h:u ∉ keys):lineL u = if num u then rows.getD 10 none3 else none3:=by
 unfold lineL
 by_cases hn:num u = true
 · rw [if_pos hn,if_pos hn]
 · rw [if_neg hn,if_neg hn]
   by_cases h0:u = []
   · rw [if_pos h0]
   · rw [if_neg h0]
     have e:rows.find? (fun r => r.1 == u) = none:=by
       rw [List.find?_eq_none]
       intro r hr hq
       rw [beq_iff_eq] at hq
       have hall:∀ r ∈ rows,r.1 ∈ keys ∨ r.1 = []:=by decide
       rcases hall r hr with h1 | h1
       · exact h (hq ▸ h1)
       · exact h0 (hq ▸ h1)
     rw [e]; rfl
set_option maxHeartbeats 2000000 in
theorem rletters_ret (u X:ByteArray) (hX:X = bs (lineL u.data.toList).2.1):Ret 89 #[.string u] (.string X):=by
 intro w
 by_cases hk:u.data.toList ∈ keys
 · simp only [keys,List.mem_cons,List.not_mem_nil,or_false] at hk
   rcases hk with hk | hk | hk | hk | hk | hk | hk | hk | hk | hk
   · obtain rfl:u = ⟨#[66,48]⟩:=ba_ext hk
     obtain rfl:X = ⟨#[65,84]⟩:=by rw [hX]; decide +kernel
     clear hX hk
     go_enter Tryz.func89,Tryz.ntmps89
     go_wp2_with fail
     go_ret
     exact ⟨rfl,rfl⟩
   · obtain rfl:u = ⟨#[68,48]⟩:=ba_ext hk
     obtain rfl:X = ⟨#[65,84]⟩:=by rw [hX]; decide +kernel
     clear hX hk
     go_enter Tryz.func89,Tryz.ntmps89
     go_wp2_with fail
     go_ret
     exact ⟨rfl,rfl⟩
   · obtain rfl:u = ⟨#[68,49]⟩:=ba_ext hk
     obtain rfl:X = ⟨#[69]⟩:=by rw [hX]; decide +kernel
     clear hX hk
     go_enter Tryz.func89,Tryz.ntmps89
     go_wp2_with fail
     go_ret
     exact ⟨rfl,rfl⟩
   · obtain rfl:u = ⟨#[75,48]⟩:=ba_ext hk
     obtain rfl:X = ⟨#[65,84]⟩:=by rw [hX]; decide +kernel
     clear hX hk
     go_enter Tryz.func89,Tryz.ntmps89
     go_wp2_with fail
     go_ret
     exact ⟨rfl,rfl⟩
   · obtain rfl:u = ⟨#[75,49]⟩:=ba_ext hk
     obtain rfl:X = ⟨#[65,84]⟩:=by rw [hX]; decide +kernel
     clear hX hk
     go_enter Tryz.func89,Tryz.ntmps89
     go_wp2_with fail
     go_ret
     exact ⟨rfl,rfl⟩
   · obtain rfl:u = ⟨#[77,51]⟩:=ba_ext hk
     obtain rfl:X = ⟨#[84]⟩:=by rw [hX]; decide +kernel
     clear hX hk
     go_enter Tryz.func89,Tryz.ntmps89
     go_wp2_with fail
     go_ret
     exact ⟨rfl,rfl⟩
   · obtain rfl:u = ⟨#[77,54]⟩:=ba_ext hk
     obtain rfl:X = ⟨#[65,84]⟩:=by rw [hX]; decide +kernel
     clear hX hk
     go_enter Tryz.func89,Tryz.ntmps89
     go_wp2_with fail
     go_ret
     exact ⟨rfl,rfl⟩
   · obtain rfl:u = ⟨#[77,55]⟩:=ba_ext hk
     obtain rfl:X = ⟨#[72]⟩:=by rw [hX]; decide +kernel
     clear hX hk
     go_enter Tryz.func89,Tryz.ntmps89
     go_wp2_with fail
     go_ret
     exact ⟨rfl,rfl⟩
   · obtain rfl:u = ⟨#[80,48]⟩:=ba_ext hk
     obtain rfl:X = ⟨#[65,84]⟩:=by rw [hX]; decide +kernel
     clear hX hk
     go_enter Tryz.func89,Tryz.ntmps89
     go_wp2_with fail
     go_ret
     exact ⟨rfl,rfl⟩
   · obtain rfl:u = ⟨#[83,48]⟩:=ba_ext hk
     obtain rfl:X = ⟨#[69]⟩:=by rw [hX]; decide +kernel
     clear hX hk
     go_enter Tryz.func89,Tryz.ntmps89
     go_wp2_with fail
     go_ret
     exact ⟨rfl,rfl⟩
 · have g:∀ v ∈ keys,(u.toList == v) = false:=fun v hv => by
     rw [toList_d,beq_eq_false_iff_ne]
     exact fun h9 => hk (h9 ▸ hv)
   have g0:=g [66,48] (by decide)
   have g1:=g [68,48] (by decide)
   have g2:=g [68,49] (by decide)
   have g3:=g [75,48] (by decide)
   have g4:=g [75,49] (by decide)
   have g5:=g [77,51] (by decide)
   have g6:=g [77,54] (by decide)
   have g7:=g [77,55] (by decide)
   have g8:=g [80,48] (by decide)
   have g9:=g [83,48] (by decide)
   have c1:=rown_ret u _ rfl
   rw [line_none _ hk] at hX
   clear g hk
   cases hn:num u.data.toList with
   | true =>
     rw [hn] at c1 hX
     obtain rfl:X = ⟨#[65,69,72,84]⟩:=hX
     clear hn
     go_enter Tryz.func89,Tryz.ntmps89
     go_wp2_with fail
     repeat (with_reducible refine c1.calls ?_; try go_wp2_with fail)
     go_ret
     exact ⟨rfl,rfl⟩
   | false =>
     rw [hn] at c1 hX
     obtain rfl:X = ⟨#[]⟩:=hX
     clear hn
     go_enter Tryz.func89,Tryz.ntmps89
     go_wp2_with fail
     repeat (with_reducible refine c1.calls ?_; try go_wp2_with fail)
     go_ret
     exact ⟨rfl,rfl⟩
set_option maxHeartbeats 2000000 in
theorem rmodes_ret (u X:ByteArray) (hX:X = bs (lineL u.data.toList).2.2):Ret 90 #[.string u] (.string X):=by
 intro w
 by_cases hk:u.data.toList ∈ keys
 · simp only [keys,List.mem_cons,List.not_mem_nil,or_false] at hk
   rcases hk with hk | hk | hk | hk | hk | hk | hk | hk | hk | hk
   · obtain rfl:u = ⟨#[66,48]⟩:=ba_ext hk
     obtain rfl:X = ⟨#[78,88]⟩:=by rw [hX]; decide +kernel
     clear hX hk
     go_enter Tryz.func90,Tryz.ntmps90
     go_wp2_with fail
     go_ret
     exact ⟨rfl,rfl⟩
   · obtain rfl:u = ⟨#[68,48]⟩:=ba_ext hk
     obtain rfl:X = ⟨#[66,68,69,78]⟩:=by rw [hX]; decide +kernel
     clear hX hk
     go_enter Tryz.func90,Tryz.ntmps90
     go_wp2_with fail
     go_ret
     exact ⟨rfl,rfl⟩
   · obtain rfl:u = ⟨#[68,49]⟩:=ba_ext hk
     obtain rfl:X = ⟨#[66,68,69,78]⟩:=by rw [hX]; decide +kernel
     clear hX hk
     go_enter Tryz.func90,Tryz.ntmps90
     go_wp2_with fail
     go_ret
     exact ⟨rfl,rfl⟩
   · obtain rfl:u = ⟨#[75,48]⟩:=ba_ext hk
     obtain rfl:X = ⟨#[66,68,69,78]⟩:=by rw [hX]; decide +kernel
     clear hX hk
     go_enter Tryz.func90,Tryz.ntmps90
     go_wp2_with fail
     go_ret
     exact ⟨rfl,rfl⟩
   · obtain rfl:u = ⟨#[75,49]⟩:=ba_ext hk
     obtain rfl:X = ⟨#[66,68,69,78]⟩:=by rw [hX]; decide +kernel
     clear hX hk
     go_enter Tryz.func90,Tryz.ntmps90
     go_wp2_with fail
     go_ret
     exact ⟨rfl,rfl⟩
   · obtain rfl:u = ⟨#[77,51]⟩:=ba_ext hk
     obtain rfl:X = ⟨#[67,71,78,86]⟩:=by rw [hX]; decide +kernel
     clear hX hk
     go_enter Tryz.func90,Tryz.ntmps90
     go_wp2_with fail
     go_ret
     exact ⟨rfl,rfl⟩
   · obtain rfl:u = ⟨#[77,54]⟩:=ba_ext hk
     obtain rfl:X = ⟨#[67,71,78,86]⟩:=by rw [hX]; decide +kernel
     clear hX hk
     go_enter Tryz.func90,Tryz.ntmps90
     go_wp2_with fail
     go_ret
     exact ⟨rfl,rfl⟩
   · obtain rfl:u = ⟨#[77,55]⟩:=ba_ext hk
     obtain rfl:X = ⟨#[67,71,78,86]⟩:=by rw [hX]; decide +kernel
     clear hX hk
     go_enter Tryz.func90,Tryz.ntmps90
     go_wp2_with fail
     go_ret
     exact ⟨rfl,rfl⟩
   · obtain rfl:u = ⟨#[80,48]⟩:=ba_ext hk
     obtain rfl:X = ⟨#[66,68,69,78]⟩:=by rw [hX]; decide +kernel
     clear hX hk
     go_enter Tryz.func90,Tryz.ntmps90
     go_wp2_with fail
     go_ret
     exact ⟨rfl,rfl⟩
   · obtain rfl:u = ⟨#[83,48]⟩:=ba_ext hk
     obtain rfl:X = ⟨#[78,83,84,86]⟩:=by rw [hX]; decide +kernel
     clear hX hk
     go_enter Tryz.func90,Tryz.ntmps90
     go_wp2_with fail
     go_ret
     exact ⟨rfl,rfl⟩
 · have g:∀ v ∈ keys,(u.toList == v) = false:=fun v hv => by
     rw [toList_d,beq_eq_false_iff_ne]
     exact fun h9 => hk (h9 ▸ hv)
   have g0:=g [66,48] (by decide)
   have g1:=g [68,48] (by decide)
   have g2:=g [68,49] (by decide)
   have g3:=g [75,48] (by decide)
   have g4:=g [75,49] (by decide)
   have g5:=g [77,51] (by decide)
   have g6:=g [77,54] (by decide)
   have g7:=g [77,55] (by decide)
   have g8:=g [80,48] (by decide)
   have g9:=g [83,48] (by decide)
   have c1:=rown_ret u _ rfl
   rw [line_none _ hk] at hX
   clear g hk
   cases hn:num u.data.toList with
   | true =>
     rw [hn] at c1 hX
     obtain rfl:X = ⟨#[66,67,68,69,71,78,83,84,86,88]⟩:=hX
     clear hn
     go_enter Tryz.func90,Tryz.ntmps90
     go_wp2_with fail
     repeat (with_reducible refine c1.calls ?_; try go_wp2_with fail)
     go_ret
     exact ⟨rfl,rfl⟩
   | false =>
     rw [hn] at c1 hX
     obtain rfl:X = ⟨#[]⟩:=hX
     clear hn
     go_enter Tryz.func90,Tryz.ntmps90
     go_wp2_with fail
     repeat (with_reducible refine c1.calls ?_; try go_wp2_with fail)
     go_ret
     exact ⟨rfl,rfl⟩
theorem rin_len (s t:ByteArray) (h:s.size ≠ 1):Ret 88 #[.string s,.string t] (.bool false):=by
 intro w
 have t1:((s.size:Int) != 1) = true:=by rw [bne_iff_ne]; omega
 go_enter Tryz.func88,Tryz.ntmps88
 go_wp2_with fail
 go_ret
 exact ⟨rfl,rfl⟩
theorem contains_take (c:UInt8) (l:List UInt8) (k:Nat) (h:k < l.length):(l.take (k + 1)).contains c = ((l.take k).contains c || c == l[k]):=by
 rw [List.take_succ_eq_append_getElem h,List.contains_eq_any_beq,List.contains_eq_any_beq,List.any_append]
 simp
set_option maxHeartbeats 1000000 in
theorem rin_one (s t:ByteArray) (hz:s.size = 1) (h0:0 < s.size) (hm:t.size <= 1000000) (q:Bool) (hq:q = t.data.toList.contains s[0]):Mak 88 #[.string s,.string t] (.bool q):=by
 intro w
 have t1:((s.size:Int) != 1) = false:=by rw [bne_eq_false_iff_eq]; omega
 have HQ:=lH hq
 clear hq
 go_enter Tryz.func88,Tryz.ntmps88
 go_wp2_with fail
 go_loopw [5] (fun i wr => ∃ k:Nat,k <= t.size /\ i = .int .i64 (k:Int) /\ Hid ((t.data.toList.take k).contains s[0] = false) /\ Hid (Since w wr)) (fun i _ => t.size - (intOf i).toNat)
 case atStart => exact ⟨0,by omega,rfl,lH rfl,lH (Since.refl w)⟩
 case round =>
   obtain ⟨k,hk,rfl,HN,HS⟩:=hrel
   by_cases hlt:k < t.size
   · obtain ⟨p,hp⟩:∃ p,((t[k].toNat:Int) == (s[0].toNat:Int)) = p:=⟨_,rfl⟩
     have hst:=contains_take s[0] t.data.toList k hlt
     have he:(s[0] == t[k]) = p:=by
       rw [<- hp,Bool.eq_iff_iff,beq_iff_eq,beq_iff_eq]
       exact ⟨fun h => by rw [h],fun h => UInt8.toNat_inj.1 (by omega)⟩
     have he2:(s[0] == t.data.toList[k]) = p:=he
     rw [HN.out,Bool.false_or,he2] at hst
     cases p
     · have HN2:=lH hst
       clear hst he he2
       go_wp2_with fail
       go_quiet (fail)
       go_wp2_with fail
       go_roundw
       case rel => exact ⟨k + 1,by omega,by go_num,HN2,lH (HS.out.step ⟨rfl,rfl,rfl,Nat.le_refl _,fun _ _ => rfl⟩)⟩
       case measure => simp [intOf]; omega
     · obtain rfl:q = true:=by
         rw [HQ.out,List.contains_eq_any_beq]
         rw [List.contains_eq_any_beq] at hst
         rw [List.any_eq_true] at hst ⊢
         obtain ⟨x,hx,hx2⟩:=hst
         exact ⟨x,List.mem_of_mem_take hx,hx2⟩
       clear hst he he2
       go_wp2_with fail
       go_quiet (fail)
       go_wp2_with fail
       go_ret
       exact ⟨rfl,HS.out.step ⟨rfl,rfl,rfl,Nat.le_refl _,fun _ _ => rfl⟩⟩
   · obtain rfl:k = t.size:=by omega
     obtain rfl:q = false:=by
       rw [HQ.out,<- HN.out,List.take_of_length_le (show t.data.toList.length <= t.size from Nat.le_refl _)]
     go_wp2_with fail
     go_ret
     exact ⟨rfl,HS.out⟩
theorem rin_mak (s t:ByteArray) (hm:t.size <= 1000000) (q:Bool) (hq:q = one t.data.toList s.data.toList):Mak 88 #[.string s,.string t] (.bool q):=by
 subst hq
 by_cases h:s.size = 1
 · obtain ⟨a,hs⟩:∃ a,s.data.toList = [a]:=by
     have h2:s.data.toList.length = 1:=h
     match hl:s.data.toList,h2 with
     | [a],_ => exact ⟨a,rfl⟩
   obtain rfl:s = ⟨#[a]⟩:=ba_ext hs
   exact rin_one ⟨#[a]⟩ t rfl (show 0 < 1 by decide) hm _ rfl
 · have e:one t.data.toList s.data.toList = false:=by
     have h2:s.data.toList.length ≠ 1:=h
     unfold one
     split
     · rename_i hl; rw [hl] at h2; exact absurd rfl h2
     · rfl
   rw [e]
   exact (rin_len s t h).mak
theorem rusage_core (u l X:ByteArray) (q:Bool) (c1:Ret 89 #[.string u] (.string X)) (c2:Mak 88 #[.string l,.string X] (.bool q)):Mak 46 #[.string u,.string l] (.bool q):=by
 intro w
 have HS:=lH (Since.refl w)
 go_enter Tryz.func46,Tryz.ntmps46
 go_wp2_with fail
 repeat (first | (with_reducible refine c1.calls ?_; try go_wp2_with fail) | (with_reducible refine c2.calls0 ?_; intro wz hz; replace HS:=lH (HS.out.step hz); clear hz; try go_wp2_with fail))
 go_ret
 exact ⟨rfl,HS.out⟩
theorem rmode_core (u l X:ByteArray) (q:Bool) (c1:Ret 90 #[.string u] (.string X)) (c2:Mak 88 #[.string l,.string X] (.bool q)):Mak 47 #[.string u,.string l] (.bool q):=by
 intro w
 have HS:=lH (Since.refl w)
 go_enter Tryz.func47,Tryz.ntmps47
 go_wp2_with fail
 repeat (first | (with_reducible refine c1.calls ?_; try go_wp2_with fail) | (with_reducible refine c2.calls0 ?_; intro wz hz; replace HS:=lH (HS.out.step hz); clear hz; try go_wp2_with fail))
 go_ret
 exact ⟨rfl,HS.out⟩
theorem line_len (u:List UInt8):(bs (lineL u).2.1).size <= 1000000 /\ (bs (lineL u).2.2).size <= 1000000:=by
 have hall:∀ r ∈ rows,(bs r.2.1).size <= 1000000 /\ (bs r.2.2).size <= 1000000:=by decide +kernel
 have h0:(bs none3.2.1).size <= 1000000 /\ (bs none3.2.2).size <= 1000000:=by decide
 unfold lineL
 split
 · exact hall _ (by decide)
 · split
   · exact h0
   · cases h:rows.find? (fun r => r.1 == u) with
     | none => exact h0
     | some r => exact hall r (List.mem_of_find?_eq_some h)
theorem rusage_mak (u l:ByteArray) (q:Bool) (hq:q = one (lineL u.data.toList).2.1 l.data.toList):Mak 46 #[.string u,.string l] (.bool q):=rusage_core u l _ q (rletters_ret u _ rfl) (rin_mak l _ (line_len _).1 q hq)
theorem rmode_mak (u l:ByteArray) (q:Bool) (hq:q = one (lineL u.data.toList).2.2 l.data.toList):Mak 47 #[.string u,.string l] (.bool q):=rmode_core u l _ q (rmodes_ret u _ rfl) (rin_mak l _ (line_len _).2 q hq)
theorem rexport_mak (s:ByteArray) (q:Bool) (hq:q = one [69,78,83] s.data.toList):Mak 49 #[.string s] (.bool q):=by
 intro w
 have HS:=lH (Since.refl w)
 have c1:Mak 88 #[.string s,.string ⟨#[69,78,83]⟩] (.bool q):=rin_mak s _ (by decide) q hq
 clear hq
 go_enter Tryz.func49,Tryz.ntmps49
 go_wp2_with fail
 repeat (with_reducible refine c1.calls0 ?_; intro wz hz; replace HS:=lH (HS.out.step hz); clear hz; try go_wp2_with fail)
 go_ret
 exact ⟨rfl,HS.out⟩
theorem rversion_len (s:ByteArray) (h:s.size ≠ 2) (t2:(s.toList == [48,48]) = false) (c1:Ret 91 #[.string s] (.bool false)):Ret 48 #[.string s] (.bool false):=by
 intro w
 have t1:((s.size:Int) == 2) = false:=by rw [beq_eq_false_iff_ne]; omega
 go_enter Tryz.func48,Tryz.ntmps48
 go_wp2_with fail
 repeat (with_reducible refine c1.calls ?_; try go_wp2_with fail)
 go_ret
 exact ⟨rfl,rfl⟩
theorem rversion_two (s:ByteArray) (hz:s.size = 2) (h0:0 < s.size) (h1:1 < s.size) (p q r x y:Bool) (t2:(s.toList == [48,48]) = p) (c1:Ret 91 #[.string s] (.bool q)) (k1:((s[0].toNat:Int) == 99) = r) (k2:decide ((49:Int) <= (s[1].toNat:Int)) = x) (k3:decide ((s[1].toNat:Int) <= 57) = y):Ret 48 #[.string s] (.bool (p || q || r && x && y)):=by
 intro w
 have t1:((s.size:Int) == 2) = true:=by rw [beq_iff_eq]; omega
 cases p
 · cases q
   · cases r
     · go_enter Tryz.func48,Tryz.ntmps48
       go_wp2_with fail
       repeat (with_reducible refine c1.calls ?_; try go_wp2_with fail)
       go_ret
       exact ⟨rfl,rfl⟩
     · cases x
       all_goals
         go_enter Tryz.func48,Tryz.ntmps48
         go_wp2_with fail
         repeat (with_reducible refine c1.calls ?_; try go_wp2_with fail)
         go_ret
         exact ⟨rfl,rfl⟩
   · go_enter Tryz.func48,Tryz.ntmps48
     go_wp2_with fail
     repeat (with_reducible refine c1.calls ?_; try go_wp2_with fail)
     go_ret
     exact ⟨rfl,rfl⟩
 · go_enter Tryz.func48,Tryz.ntmps48
   go_wp2_with fail
   go_ret
   exact ⟨rfl,rfl⟩
theorem rversion_ret (s:ByteArray) (q:Bool) (hq:q = verB s.data.toList):Ret 48 #[.string s] (.bool q):=by
 subst hq
 by_cases h:s.size = 2
 · obtain ⟨a,b,hs⟩:∃ a b,s.data.toList = [a,b]:=by
     have h2:s.data.toList.length = 2:=h
     match hl:s.data.toList,h2 with
     | [a,b],_ => exact ⟨a,b,rfl⟩
   obtain rfl:s = ⟨#[a,b]⟩:=ba_ext hs
   have h9:=rversion_two ⟨#[a,b]⟩ rfl (show 0 < 2 by decide) (show 1 < 2 by decide) _ _ _ _ _ rfl (rown_ret _ _ rfl) rfl rfl rfl
   have e:verB [a,b] = ((⟨#[a,b]⟩:ByteArray).toList == [48,48] || num [a,b] || ((a.toNat:Int) == 99) && decide ((49:Int) <= (b.toNat:Int)) && decide ((b.toNat:Int) <= 57)):=by
     rw [toList_d]
     show (if a = 99 then dig b && b != 48 else [a,b] == [48,48] || num [a,b]) = ([a,b] == [48,48] || num [a,b] || ((a.toNat:Int) == 99) && decide ((49:Int) <= (b.toNat:Int)) && decide ((b.toNat:Int) <= 57))
     by_cases hc:a = 99
     · rw [if_pos hc]
       subst hc
       have e1:([99,b] == [48,(48:UInt8)]) = false:=by rw [beq_eq_false_iff_ne]; intro h; cases h
       have e2:num [99,b] = false:=by unfold num; simp
       rw [e1,e2]
       rw [Bool.eq_iff_iff]
       unfold dig
       simp only [Bool.and_eq_true,Bool.or_eq_true,decide_eq_true_iff,bne_iff_ne,beq_iff_eq,Bool.false_eq_true,false_or]
       have hb:b ≠ 48 ↔ b.toNat ≠ 48:=not_congr ⟨fun h => by rw [h]; rfl,fun h => UInt8.toNat_inj.1 h⟩
       rw [hb]
       constructor
       · intro ⟨⟨h1,h2⟩,h3⟩; exact ⟨⟨rfl,by omega⟩,by omega⟩
       · intro ⟨⟨_,h1⟩,h2⟩; omega
     · rw [if_neg hc]
       have e1:((a.toNat:Int) == 99) = false:=by rw [beq_eq_false_iff_ne]; exact fun h => hc (UInt8.toNat_inj.1 (by show a.toNat = 99; omega))
       rw [e1,Bool.false_and,Bool.false_and,Bool.or_false]
   show Ret _ _ (.bool (verB [a,b]))
   rw [e]
   exact h9
 · have h2:s.data.toList.length ≠ 2:=h
   have e:verB s.data.toList = false:=by
     unfold verB
     split
     · rename_i hl; rw [hl] at h2; exact absurd rfl h2
     · rfl
   have e1:(s.toList == [48,48]) = false:=by rw [toList_d,beq_eq_false_iff_ne]; intro h3; rw [h3] at h2; exact absurd rfl h2
   have e2:num s.data.toList = false:=by
     unfold num
     split
     · rename_i hl; rw [hl] at h2; exact absurd rfl h2
     · rfl
   rw [e]
   have c1:=rown_ret s _ rfl
   rw [e2] at c1
   exact rversion_len s h e1 c1
set_option maxHeartbeats 1000000 in
theorem rcheck_core (u m v e l:ByteArray) (q1 q2 q3 q4:Bool) (c1:Mak 46 #[.string u,.string l] (.bool q1)) (c2:Mak 47 #[.string u,.string m] (.bool q2)) (c3:Ret 48 #[.string v] (.bool q3)) (c4:Mak 49 #[.string e] (.bool q4)) (x:Int) (hx:(if q1 && q2 && q3 && q4 then 0 else 12) = x) :
   Mak 16 #[.agg #[.string u,.string m,.string v,.string e],.string l] (.int .i64 x):=by
 intro w
 have HS:=lH (Since.alloc (Since.refl w) (.cells #[.string u,.string m,.string v,.string e] 24))
 have m0:(w.alloc (.cells #[.string u,.string m,.string v,.string e] 24)).cell? ⟨w.heap.size,0,none⟩ = some (.string u):=World.cell?_alloc_new _ _ _ _
 have m1:(w.alloc (.cells #[.string u,.string m,.string v,.string e] 24)).cell? ⟨w.heap.size,1,none⟩ = some (.string m):=World.cell?_alloc_new _ _ _ _
 have m2:(w.alloc (.cells #[.string u,.string m,.string v,.string e] 24)).cell? ⟨w.heap.size,2,none⟩ = some (.string v):=World.cell?_alloc_new _ _ _ _
 have m3:(w.alloc (.cells #[.string u,.string m,.string v,.string e] 24)).cell? ⟨w.heap.size,3,none⟩ = some (.string e):=World.cell?_alloc_new _ _ _ _
 have hg:w.heap.size < (w.alloc (.cells #[.string u,.string m,.string v,.string e] 24)).heap.size:=by simp
 cases q1
 · obtain rfl:x = 12:=hx.symm
   clear hx
   go_enter Tryz.func16,Tryz.ntmps16
   go_wp2_with fail
   repeat (with_reducible refine c1.calls0 ?_; intro wz hz; replace m0:=(Below.cell hz (by exact hg)).trans m0; replace m1:=(Below.cell hz (by exact hg)).trans m1; replace m2:=(Below.cell hz (by exact hg)).trans m2; replace m3:=(Below.cell hz (by exact hg)).trans m3; replace hg:=Nat.lt_of_lt_of_le hg (Below.size hz); replace HS:=lH (HS.out.step hz); clear hz; try go_wp2_with fail)
   go_ret
   exact ⟨rfl,HS.out⟩
 · cases q2
   · obtain rfl:x = 12:=hx.symm
     clear hx
     go_enter Tryz.func16,Tryz.ntmps16
     go_wp2_with fail
     repeat ((first | with_reducible refine c1.calls0 ?_ | with_reducible refine c2.calls0 ?_); intro wz hz; replace m0:=(Below.cell hz (by exact hg)).trans m0; replace m1:=(Below.cell hz (by exact hg)).trans m1; replace m2:=(Below.cell hz (by exact hg)).trans m2; replace m3:=(Below.cell hz (by exact hg)).trans m3; replace hg:=Nat.lt_of_lt_of_le hg (Below.size hz); replace HS:=lH (HS.out.step hz); clear hz; try go_wp2_with fail)
     go_ret
     exact ⟨rfl,HS.out⟩
   · cases q3
     · obtain rfl:x = 12:=hx.symm
       clear hx
       go_enter Tryz.func16,Tryz.ntmps16
       go_wp2_with fail
       repeat (first | ((first | with_reducible refine c1.calls0 ?_ | with_reducible refine c2.calls0 ?_); intro wz hz; replace m0:=(Below.cell hz (by exact hg)).trans m0; replace m1:=(Below.cell hz (by exact hg)).trans m1; replace m2:=(Below.cell hz (by exact hg)).trans m2; replace m3:=(Below.cell hz (by exact hg)).trans m3; replace hg:=Nat.lt_of_lt_of_le hg (Below.size hz); replace HS:=lH (HS.out.step hz); clear hz; try go_wp2_with fail) | (with_reducible refine c3.calls ?_; try go_wp2_with fail))
       go_ret
       exact ⟨rfl,HS.out⟩
     · cases q4
       · obtain rfl:x = 12:=hx.symm
         clear hx
         go_enter Tryz.func16,Tryz.ntmps16
         go_wp2_with fail
         repeat (first | ((first | with_reducible refine c1.calls0 ?_ | with_reducible refine c2.calls0 ?_); intro wz hz; replace m0:=(Below.cell hz (by exact hg)).trans m0; replace m1:=(Below.cell hz (by exact hg)).trans m1; replace m2:=(Below.cell hz (by exact hg)).trans m2; replace m3:=(Below.cell hz (by exact hg)).trans m3; replace hg:=Nat.lt_of_lt_of_le hg (Below.size hz); replace HS:=lH (HS.out.step hz); clear hz; try go_wp2_with fail) | (with_reducible refine c3.calls ?_; try go_wp2_with fail) | (with_reducible refine c4.calls0 ?_; intro wz hz; replace m0:=(Below.cell hz (by exact hg)).trans m0; replace m1:=(Below.cell hz (by exact hg)).trans m1; replace m2:=(Below.cell hz (by exact hg)).trans m2; replace m3:=(Below.cell hz (by exact hg)).trans m3; replace hg:=Nat.lt_of_lt_of_le hg (Below.size hz); replace HS:=lH (HS.out.step hz); clear hz; try go_wp2_with fail))
         go_ret
         exact ⟨rfl,HS.out⟩
       · obtain rfl:x = 0:=hx.symm
         clear hx
         go_enter Tryz.func16,Tryz.ntmps16
         go_wp2_with fail
         repeat (first | ((first | with_reducible refine c1.calls0 ?_ | with_reducible refine c2.calls0 ?_); intro wz hz; replace m0:=(Below.cell hz (by exact hg)).trans m0; replace m1:=(Below.cell hz (by exact hg)).trans m1; replace m2:=(Below.cell hz (by exact hg)).trans m2; replace m3:=(Below.cell hz (by exact hg)).trans m3; replace hg:=Nat.lt_of_lt_of_le hg (Below.size hz); replace HS:=lH (HS.out.step hz); clear hz; try go_wp2_with fail) | (with_reducible refine c3.calls ?_; try go_wp2_with fail) | (with_reducible refine c4.calls0 ?_; intro wz hz; replace m0:=(Below.cell hz (by exact hg)).trans m0; replace m1:=(Below.cell hz (by exact hg)).trans m1; replace m2:=(Below.cell hz (by exact hg)).trans m2; replace m3:=(Below.cell hz (by exact hg)).trans m3; replace hg:=Nat.lt_of_lt_of_le hg (Below.size hz); replace HS:=lH (HS.out.step hz); clear hz; try go_wp2_with fail))
         go_ret
         exact ⟨rfl,HS.out⟩
theorem rcheck_mak (u m v e l:ByteArray) (x:Int) (hx:x = if okB u.data.toList m.data.toList v.data.toList e.data.toList l.data.toList then 0 else 12):Mak 16 #[.agg #[.string u,.string m,.string v,.string e],.string l] (.int .i64 x):=by
 subst hx
 exact rcheck_core u m v e l _ _ _ _ (rusage_mak u l _ rfl) (rmode_mak u m _ rfl) (rversion_ret v _ rfl) (rexport_mak e _ rfl) _ rfl
end Table
end Go.Proofs.YtddlaafpianjbaaGreatDoor
