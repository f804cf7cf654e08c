import Derived.Test.YtcdjfmlanicjlaaGreatDoorSl49
import Derived.Test.YtcdjfmlanicjlaaGreatDoorSl52
set_option maxRecDepth 100000
namespace Go.Proofs.YtcdjfmlanicjlaaGreatDoor
namespace RegW
section
variable {P:Program} {ops:Array Oper} {Q:Exit -> Act -> World -> Prop} {md:Region.Mode} {S:World -> Prop} {L:Nat}
theorem onlyS (i:Nat) {o:Oper} {fuel:Nat} {listed:Array Bool} {a:Act} {w w':World} (ho:ops[i]? = some o) (hr:Region.ready md ops listed = [i]) (ty:TypeId) (x y:Operand) (hop:o.op = .store ty x y) (p:Addr) (v:Value) (hx:a.eval x = .pointer (some p)) (hy:a.eval y = v) (hrun:(storeVar ty p v).run P w = .ok () w') (hw:Region.wanted o (yielded ops a.tmps) = true) (hS:S w') (h:anyW P md ops Q S L fuel (listed.setIfInBounds i true) (a.put o.dst undef) w'):anyW P md ops Q S L (fuel + 1) listed a w:=by
 subst hy
 refine only ho hr (fun K hK => ?_)
 rw [if_pos hw]
 unfold Oper.wp execOp
 simp only [hop,hx,Instr.storeAt,Instr.sureAddr,Sem.run_bind,Sem.run_pure,Result.andThen_ok,hrun]
 exact hK.out _ _ hS (fun _ => h)
end
end RegW
open Go.RowKit
namespace Scr
open Rw RwL
def Rok (t:ByteArray):Bool:=decide ((Rcd.parV t).2 = 0)
def sc (s:St):List Value:=[.string s.v,.string s.n,.string s.o,.int .i64 s.f,.string s.t,.string s.b]
theorem one_s:(Tryz.prog.info? 9).map (·.size) = some 1:=by kernel_rfl
theorem one_i:(Tryz.prog.info? 3).map (·.size) = some 1:=by kernel_rfl
theorem lone_store {W:World} {base:Nat} {t:TypeId} {g:Nat} {C:List Value} (h:(RwL.lone t g C).own W base) (ty:TypeId) (hi:(Tryz.prog.info? ty).map (·.size) = some 1) (p:Nat) (hp:p < C.length) (v:Value) (h1:v.oneCell' = true) :
   (storeVar ty ⟨g,p,none⟩ v).run Tryz.prog W = .ok () (W.setCell ⟨g,p,none⟩ v):=by
 have hg:=RwL.lone_heap h
 obtain ⟨cur,hcur⟩:∃ cur,cur = C.toArray:=⟨_,rfl⟩
 rw [<- hcur] at hg
 have hsz:p < cur.size:=by rw [hcur]; simpa using hp
 have h9:=run_storeCells_at Tryz.prog g p t [v] 0 cur W hg (by simp; omega) (fun x hx => by simp at hx; subst hx; exact h1)
 have hc:v.cells = #[v]:=by
   cases v <;> first | rfl | cases h1
 cases hq:Tryz.prog.info? ty with
 | none => simp [hq] at hi
 | some i =>
   have hs:i.size = 1:=by simpa [hq] using hi
   rw [Go.setCell_eq_setRow W g p cur t _ _ hg]
   have e1:(cur.toList.take p ++ [v] ++ cur.toList.drop (p + 1)).toArray = cur.setIfInBounds p v:=by
     apply Array.ext'
     rw [Array.toList_setIfInBounds,List.set_eq_take_append_cons_drop]
     have:p < cur.toList.length:=by simp; omega
     rw [if_pos this]
     simp
   simp only [Nat.add_zero,List.length_cons,List.length_nil,Nat.zero_add] at h9
   rw [e1] at h9
   simp [storeVar,sizeOf,typeInfo,hq,hc,hs,h9]
structure TI (w:World) (g gu gi:Nat) (s U:St) (X:ByteArray) (p:Nat) (V:Value) (L:List ByteArray) (W:World):Prop where
 rows:Rw.Rows W w.heap.size ([RwL.lone 26 gu (sc U),RwL.lone 26 g (sc s)] ++ ⟨9,1,V,L.length,L.map Value.string⟩ :: [])
 since:Since w W
 it:W.heap[gi]? = some (.stringIter X p)
section
variable {w:World} {g gu gi:Nat} {s U:St} {X:ByteArray} {p:Nat} {V:Value} {L:List ByteArray} {W W':World}
theorem ti_step (hb:Since W W') (h:Hid (TI w g gu gi s U X p V L W)):Hid (TI w g gu gi s U X p V L W') :=
 lH ⟨h.out.rows.since hb,h.out.since.step hb,(Below.block hb gi (Array.getElem?_eq_some_iff.1 h.out.it).1).trans h.out.it⟩
theorem ti_next (h:Hid (TI w g gu gi s U X p V L W)) (hg:w.heap.size <= gi) (q:Nat):Hid (TI w g gu gi s U X q V L (W.iterAt gi X q)) :=
 lH ⟨rows_iter h.out.it q h.out.rows,Lib.below_iterAt h.out.since hg X q,Lib.iterAt_heap W gi X p q h.out.it⟩
theorem ti_ou (h:Hid (TI w g gu gi s U X p V L W)):(RwL.lone 26 gu (sc U)).own W w.heap.size:=h.out.rows.own _ (by simp)
theorem ti_os (h:Hid (TI w g gu gi s U X p V L W)):(RwL.lone 26 g (sc s)).own W w.heap.size:=h.out.rows.own _ (by simp)
theorem ti_ol (h:Hid (TI w g gu gi s U X p V L W)):W.ownsRow w.heap.size 9 1 V L.length (L.map Value.string):=h.out.rows.own ⟨9,1,V,L.length,L.map Value.string⟩ (by simp)
theorem ti_cs (h:Hid (TI w g gu gi s U X p V L W)) (i:Nat) (x:Value) (hx:(sc s)[i]? = some x):W.cell? ⟨g,i,none⟩ = some x:=(RwL.lone_cell (ti_os h) i x hx).1
theorem ti_cu (h:Hid (TI w g gu gi s U X p V L W)) (i:Nat) (x:Value) (hx:(sc U)[i]? = some x):W.cell? ⟨gu,i,none⟩ = some x:=(RwL.lone_cell (ti_ou h) i x hx).1
theorem ti_drew (h:Hid (TI w g gu gi s U X p V L W)):Hid (TI w g gu gi s U X p V L W.drew):=by
 have hd:Below W.heap.size W W.drew:=⟨rfl,rfl,rfl,Nat.le_refl _,fun _ _ => rfl⟩
 exact ti_step hd h
theorem lone_base {t:TypeId} {C:List Value} {b:Nat} (h:(RwL.lone t gu C).own W b):b <= gu:=by
 rcases h.2 with ⟨h0,_⟩ | ⟨g',cap,cur,hv,hb,hg,_⟩
 · cases h0
 · cases hv; exact hb
theorem ti_ne (h:Hid (TI w g gu gi s U X p V L W)):gi ≠ gu:=by
 intro e
 have h1:=RwL.lone_heap (ti_ou h)
 rw [<- e,h.out.it] at h1
 cases h1
theorem ti_set (h:Hid (TI w g gu gi s U X p V L W)) (i:Nat) (hi:i < 6) (x:Value) (U':St) (hU:sc U' = (sc U).set i x):Hid (TI w g gu gi s U' X p V L (W.setCell ⟨gu,i,none⟩ x)):=by
 refine lH ⟨?_,Below.setCell (p:=⟨gu,i,none⟩) h.out.since (lone_base (ti_ou h)) x, ?_⟩
 · have h1:=Rw.Rows.set (A:=[]) (B:=[RwL.lone 26 g (sc s),⟨9,1,V,L.length,L.map Value.string⟩]) (xs:=sc U) h.out.rows i (by show i < 1 * (sc U).length; show i < 1 * 6; omega) x
   rw [<- hU] at h1
   exact h1
 · rw [heap_setCell_other W ⟨gu,i,none⟩ gi _ (fun e => ti_ne h e)]
   exact h.out.it
theorem ti_app {V2:Value} {y:ByteArray} (h:Hid (TI w g gu gi s U X p V L W)) (hr:Rw.Rows W' w.heap.size ([RwL.lone 26 gu (sc U),RwL.lone 26 g (sc s)] ++ ⟨9,1,V2,L.length + 1,L.map Value.string ++ (#[.string y]:Array Value).toList⟩ :: [])) (hs:Since w W') (hk:KeptBut W W' V):Hid (TI w g gu gi s U X p V2 (L ++ [y]) W'):=by
 refine lH ⟨?_,hs,iter_kept h.out.it hk (iter_ne h.out.it (ti_ol h))⟩
 rw [List.length_append,List.map_append]
 exact hr
theorem ti_new (w:World) (s U:St) (X:ByteArray):TI w w.heap.size (w.heap.size + 1) (w.heap.size + 1 + 1 + 1) s U X 0 (.slice (some ⟨w.heap.size + 1 + 1,0,none⟩) 1 1) [s.v] ((((w.alloc (.cells (sc s).toArray 26)).alloc (.cells (sc U).toArray 26)).alloc (.cells #[.string s.v] 9)).iter X 0):=by
 have h0:=rows_push (Rows.nil w w.heap.size) (Nat.le_refl _) (sc s) 26
 have h1:=rows_push h0 (by simp) (sc U) 26
 have e1:(w.alloc (.cells (sc s).toArray 26)).heap.size = w.heap.size + 1:=by simp
 have e2:((w.alloc (.cells (sc s).toArray 26)).alloc (.cells (sc U).toArray 26)).heap.size = w.heap.size + 1 + 1:=by simp
 have e3:(((w.alloc (.cells (sc s).toArray 26)).alloc (.cells (sc U).toArray 26)).alloc (.cells #[.string s.v] 9)).heap.size = w.heap.size + 1 + 1 + 1:=by simp
 rw [e1] at h1
 have h2:=rows_push h1 (by rw [e2]; omega) [.string s.v] 9
 rw [e2] at h2
 refine ⟨?_,(((Since.refl w).alloc _).alloc _).alloc _ |>.alloc _, ?_⟩
 · have h3:=h2.alloc (.stringIter X 0)
   refine ⟨fun r hr => ?_, ?_⟩
   · refine h3.own r ?_
     simp only [List.cons_append,List.nil_append,List.mem_cons,List.not_mem_nil,or_false] at hr ⊢
     rcases hr with hr | hr | hr
     · exact Or.inr (Or.inl hr)
     · exact Or.inr (Or.inr hr)
     · exact Or.inl hr
   · have ha:=h3.apart
     simp only [List.pairwise_cons,List.mem_cons,List.not_mem_nil,or_false,forall_eq_or_imp,forall_eq,List.cons_append,List.nil_append] at ha ⊢
     exact ⟨⟨ha.2.1,Rw.Apart.symm ha.1.1⟩,Rw.Apart.symm ha.1.2,by simp⟩
 · rw [<- e3]; exact World.iter_heap _ X 0
end
end Scr
end Go.Proofs.YtcdjfmlanicjlaaGreatDoor
namespace Go.Proofs.YtcdjfmlanicjlaaGreatDoor
open Go.RowKit
namespace Scr
open Rw RwL Kind
theorem con_snoc (l:List UInt8) (c d:UInt8):(l ++ [d]).contains c = (l.contains c || (c == d)):=by
 rw [List.contains_eq_mem,List.contains_eq_mem]
 by_cases h:c ∈ l
 · rw [decide_eq_true h,decide_eq_true (List.mem_append_left _ h)]; rfl
 · by_cases h2:c = d
   · rw [decide_eq_false h,decide_eq_true (List.mem_append_right _ (by rw [h2]; exact List.mem_singleton_self _)),h2]; simp
   · rw [decide_eq_false h,decide_eq_false (fun h9 => by
       rcases List.mem_append.1 h9 with h9 | h9
       · exact h h9
       · exact h2 (List.mem_singleton.1 h9)),beq_eq_false_iff_ne.2 h2]
     rfl
theorem keep_hit (l:List UInt8) (c:UInt8) (x:ByteArray):keep (l ++ [c]) c x = x:=by
 unfold keep
 rw [con_snoc,beq_self_eq_true,Bool.or_true,if_pos rfl]
theorem keep_miss (l:List UInt8) (c d:UInt8) (x:ByteArray) (h:(c == d) = false):keep (l ++ [d]) c x = keep l c x:=by
 unfold keep
 rw [con_snoc,h,Bool.or_false]
theorem used_N (s:St) (l:List UInt8):used s (l ++ [78]) = { used s l with n:=s.n }:=by
 show St.mk _ _ _ _ _ _ = St.mk _ _ _ _ _ _
 rw [keep_hit,keep_miss _ 79 78 _ rfl,keep_miss _ 84 78 _ rfl,keep_miss _ 66 78 _ rfl,con_snoc,show ((70:UInt8) == 78) = false from rfl,Bool.or_false]
 rfl
theorem used_O (s:St) (l:List UInt8):used s (l ++ [79]) = { used s l with o:=s.o }:=by
 show St.mk _ _ _ _ _ _ = St.mk _ _ _ _ _ _
 rw [keep_hit,keep_miss _ 78 79 _ rfl,keep_miss _ 84 79 _ rfl,keep_miss _ 66 79 _ rfl,con_snoc,show ((70:UInt8) == 79) = false from rfl,Bool.or_false]
 rfl
theorem used_F (s:St) (l:List UInt8):used s (l ++ [70]) = { used s l with f:=s.f }:=by
 show St.mk _ _ _ _ _ _ = St.mk _ _ _ _ _ _
 rw [keep_miss _ 78 70 _ rfl,keep_miss _ 79 70 _ rfl,keep_miss _ 84 70 _ rfl,keep_miss _ 66 70 _ rfl,con_snoc,beq_self_eq_true,Bool.or_true,if_pos rfl]
 rfl
theorem used_T (s:St) (l:List UInt8):used s (l ++ [84]) = { used s l with t:=s.t }:=by
 show St.mk _ _ _ _ _ _ = St.mk _ _ _ _ _ _
 rw [keep_hit,keep_miss _ 78 84 _ rfl,keep_miss _ 79 84 _ rfl,keep_miss _ 66 84 _ rfl,con_snoc,show ((70:UInt8) == 84) = false from rfl,Bool.or_false]
 rfl
theorem used_B (s:St) (l:List UInt8):used s (l ++ [66]) = { used s l with b:=s.b }:=by
 show St.mk _ _ _ _ _ _ = St.mk _ _ _ _ _ _
 rw [keep_hit,keep_miss _ 78 66 _ rfl,keep_miss _ 79 66 _ rfl,keep_miss _ 84 66 _ rfl,con_snoc,show ((70:UInt8) == 66) = false from rfl,Bool.or_false]
 rfl
theorem used_nil (s:St):used s [] = ⟨s.v,E0,E0,0,E0,E0⟩:=rfl
theorem eq_keep (l:List UInt8) (c:UInt8) (x:ByteArray):((keep l c x).toList == x.toList) = eB l c x:=by
 rw [toList_d,toList_d]
 unfold keep eB
 cases l.contains c
 · rw [if_neg (by decide),Bool.false_or]
   by_cases h:x.data.toList = []
   · rw [h,decide_eq_true rfl]; rfl
   · rw [decide_eq_false h]
     exact beq_eq_false_iff_ne.2 (fun h9 => h (by rw [<- h9]; rfl))
 · rw [if_pos rfl,Bool.true_or]
   exact beq_self_eq_true _
theorem eq_f (l:List UInt8) (f:Int):((if l.contains 70 = true then f else 0) == f) = (l.contains 70 || decide (f = 0)):=by
 cases l.contains 70
 · rw [if_neg (by decide),Bool.false_or]
   by_cases h:f = 0
   · rw [h,decide_eq_true rfl]; rfl
   · rw [decide_eq_false h]
     exact beq_eq_false_iff_ne.2 (fun h9 => h h9.symm)
 · rw [if_pos rfl,Bool.true_or]
   exact beq_self_eq_true _
theorem lay_sub (v:List UInt8):∀ c ∈ layD v,c = 78 ∨ c = 79 ∨ c = 70 ∨ c = 66 ∨ c = 84:=by
 intro c hc
 unfold layD at hc
 cases h:layV v with
 | none => rw [h] at hc; cases hc
 | some fs =>
   rw [h] at hc
   rcases lay_cases h with ⟨-,rfl⟩ | ⟨-,rfl⟩ | ⟨-,rfl⟩ | ⟨-,rfl⟩ | ⟨-,rfl⟩ | ⟨-,rfl⟩ <;>
     simp only [Option.getD_some,List.mem_cons,List.not_mem_nil,or_false] at hc <;> (try (rcases hc with rfl | rfl | rfl | rfl)) <;> (try (rcases hc with rfl | rfl | rfl)) <;> (try (rcases hc with rfl | rfl)) <;> (try subst hc) <;> (try decide) <;> (try cases hc)
theorem lay_len (v:List UInt8):(layD v).length <= 4:=by
 unfold layD
 cases h:layV v with
 | none => exact Nat.zero_le _
 | some fs => rcases lay_cases h with ⟨-,rfl⟩ | ⟨-,rfl⟩ | ⟨-,rfl⟩ | ⟨-,rfl⟩ | ⟨-,rfl⟩ | ⟨-,rfl⟩ <;> decide
theorem con_ret (X:ByteArray):Ret 26 #[.string X,.int .i32 84] (.bool (X.data.toList.contains 84)):=by
 intro w
 refine (Tryz.strings_ContainsRune_ascii X 84 w (by decide) (by decide)).mono ?_
 rintro _ _ ⟨rfl,rfl⟩
 refine ⟨?_,rfl⟩
 have e:decide (0 <= Lib.indexByte X.data.toList ((84:Int).toNat.toUInt8)) = X.data.toList.contains 84:=by
   rw [show (84:Int).toNat.toUInt8 = 84 from rfl]
   by_cases h:(84:UInt8) ∈ X.data.toList
   · rw [List.contains_eq_mem,decide_eq_true h]
     rw [decide_eq_true_eq]
     have h1:=Lib.indexByte_ge X.data.toList 84
     by_cases h2:Lib.indexByte X.data.toList 84 = -1
     · obtain ⟨k,hk⟩:=List.mem_iff_getElem?.1 h
       exact absurd hk (Lib.indexByte_none h2 k)
     · omega
   · rw [List.contains_eq_mem,decide_eq_false h]
     rw [decide_eq_false_iff_not]
     intro h1
     obtain ⟨o,ho⟩:=Int.eq_ofNat_of_zero_le h1
     exact h (List.mem_of_getElem? (Lib.indexByte_some ho).1)
 rw [e]
end Scr
namespace Scr
open Rw RwL Kind
open Rcd (hx)
def LH (s:St) (X:ByteArray) (k0:Bool) (p:Nat) (q:Bool) (L:List ByteArray) (U:St):Prop :=
 q = (k0 && (X.data.toList.take p).all (okF Rok X.data.toList s)) /\ L.map (·.data.toList) = s.v.data.toList :: (X.data.toList.take p).map (wd s) /\ U = used s (X.data.toList.take p) /\ (∀ x ∈ L,x.size <= 80000) /\ L.length = p + 1
theorem lh_next {s:St} {X:ByteArray} {k0:Bool} {p:Nat} {q:Bool} {L:List ByteArray} {U U':St} (h:LH s X k0 p q L U) (c:UInt8) (hc:X.data.toList.take (p + 1) = X.data.toList.take p ++ [c]) (y:ByteArray) (hy:y.data.toList = wd s c) (hz:y.size <= 80000) (hU:U' = used s (X.data.toList.take p ++ [c])) (r:Bool) (hr:r = okF Rok X.data.toList s c) :
   LH s X k0 (p + 1) (q && r) (L ++ [y]) U':=by
 obtain ⟨h1,h2,h3,h4,h5⟩:=h
 refine ⟨?_, ?_, ?_, ?_, ?_⟩
 · rw [hc,List.all_append,h1,hr]
   simp only [List.all_cons,List.all_nil,Bool.and_true,Bool.and_assoc]
 · rw [hc,List.map_append,List.map_append,h2]
   simp only [List.map_cons,List.map_nil,hy,List.cons_append]
 · rw [hc]; exact hU
 · intro x hx
   rcases List.mem_append.1 hx with hx | hx
   · exact h4 x hx
   · rw [List.mem_singleton.1 hx]; exact hz
 · rw [List.length_append,h5]; rfl
theorem text_no (s:St) (h:(layI s.v.data.toList && (layD s.v.data.toList).all (okF Rok (layD s.v.data.toList) s)) = false):textV Rok s = []:=by
 unfold textV
 unfold layI layD at h
 cases hl:layV s.v.data.toList with
 | none => rfl
 | some fs =>
   rw [hl] at h
   dsimp only
   rw [if_neg (fun h9 => ?_)]
   have h1:(true && fs.all (okF Rok fs s)) = false:=h
   rw [Bool.true_and,h9.1] at h1
   cases h1
theorem text_yes (s:St) (h:(layI s.v.data.toList && (layD s.v.data.toList).all (okF Rok (layD s.v.data.toList) s)) = true):textV Rok s = if usedO s (layD s.v.data.toList) = true /\ (lineW s (layD s.v.data.toList)).length <= 40000 then lineW s (layD s.v.data.toList) else []:=by
 unfold textV
 unfold layI layD at h
 unfold layD
 cases hl:layV s.v.data.toList with
 | none => rw [hl] at h; cases h
 | some fs =>
   rw [hl] at h
   dsimp only
   have h1:(true && fs.all (okF Rok fs s)) = true:=h
   rw [Bool.true_and] at h1
   show (if fs.all (okF Rok fs s) = true /\ usedO s fs = true /\ (lineW s fs).length <= 40000 then lineW s fs else []) = if usedO s fs = true /\ (lineW s fs).length <= 40000 then lineW s fs else []
   by_cases h2:usedO s fs = true /\ (lineW s fs).length <= 40000
   · rw [if_pos h2,if_pos ⟨h1,h2⟩]
   · rw [if_neg h2,if_neg (fun h9 => h2 h9.2)]
set_option maxHeartbeats 16000000 in
theorem text_k (s:St) (hn:s.n.size <= 40000) (ho:s.o.size <= 40000) (ht:s.t.size <= 40000) (hb:s.b.size <= 40000) (hv:s.v.size <= 40000):KMk Tab2 9 #[.agg #[.string s.v,.string s.n,.string s.o,.int .i64 s.f,.string s.t,.string s.b]] (.string (bs (textV Rok s))):=by
 intro w hT
 have HT:=lH hT
 obtain ⟨X,hX⟩:∃ X,X = bs (layD s.v.data.toList):=⟨_,rfl⟩
 obtain ⟨k0,hk0⟩:∃ k,k = layI s.v.data.toList:=⟨_,rfl⟩
 have c1:=layout_ret s.v
 rw [<- hX,<- hk0] at c1
 have hXl:X.data.toList = layD s.v.data.toList:=by rw [hX,list_bs]
 have HXS:=lH (lay_sub s.v.data.toList)
 have HXZ:Hid (X.size <= 4):=lH (by
   show X.data.toList.length <= 4
   rw [hXl]
   exact lay_len _)
 rw [<- hXl] at HXS
 obtain ⟨R,hR⟩:∃ R,R = bs (textV Rok s):=⟨_,rfl⟩
 rw [<- hR]
 have HRR:=lH hR
 have HXL:=lH hXl
 have HK0:=lH hk0
 have HN0:=lH hn
 have HO0:=lH ho
 have HT0:=lH ht
 have HB0:=lH hb
 have HV0:=lH hv
 have HNEW:=ti_new w s ⟨s.v,E0,E0,0,E0,E0⟩ X
 unfold sc E0 at HNEW
 have HI:=lH HNEW
 clear hT hX hk0 hXl hR hn ho ht hb hv HNEW
 go_enter Tryz.func9,Tryz.ntmps9
 go_wp2_with fail
 refine (c1).calls ?_
 go_wp2_with fail
 obtain ⟨gu,hgu⟩:∃ gu,gu = w.heap.size + 1:=⟨_,rfl⟩
 obtain ⟨gi,hgi⟩:∃ gi,gi = w.heap.size + 1 + 1 + 1:=⟨_,rfl⟩
 have HGI:=lH (show w.heap.size <= gi by omega)
 rw [<- hgi] at HI ⊢
 rw [<- hgu] at HI ⊢
 clear hgi hgu
 go_loopw [4,6] (fun o v wr => ∃ (p:Nat) (V:Value) (L:List ByteArray) (U:St) (q:Bool),p <= X.size /\ o = .bool q /\ v = V /\ Hid (LH s X k0 p q L U) /\ Hid (TI w w.heap.size gu gi s U X p V L wr)) (fun _ _ wr => X.size - wr.iterPos gi)
 case atStart => exact ⟨0,_,[s.v],⟨s.v,E0,E0,0,E0,E0⟩,k0,Nat.zero_le _,rfl,rfl,lH ⟨by rw [List.take_zero]; simp,by rw [List.take_zero]; rfl,by rw [List.take_zero,used_nil],fun x hx => by rw [List.mem_singleton.1 hx]; have:=HV0.out; omega,rfl⟩,HI⟩
 case round =>
   clear HI
   obtain ⟨p,V,L,U,q,hp,rfl,rfl,HL,HI⟩:=hrel
   have hmu:wr.iterPos gi = p:=by simp [World.iterPos,HI.out.it]
   by_cases hlt:p < X.size
   · have hnx:∀ ty,(Instr.next (.pointer (some ⟨gi,0,none⟩)) true ty).run Tryz.prog wr = .ok (.tuple #[.bool true,.int .i64 (p:Int),.int .i32 (X[p].toNat:Int)]) (wr.iterAt gi X (p + 1)):=fun ty => by
       have h:=Lib.run_next_any_at (P:=Tryz.prog) wr gi X p ty HI.out.it hlt
       have hb:X[p].toNat < 128:=by
         rcases HXS.out X[p] (List.getElem_mem (by exact hlt)) with h9 | h9 | h9 | h9 | h9 <;> rw [h9] <;> decide
       rw [decode_ascii X p hlt hb] at h
       exact h
     have HTK:Hid (X.data.toList.take (p + 1) = X.data.toList.take p ++ [X[p]]):=lH (by
       rw [List.take_succ_eq_append_getElem (by exact hlt)]
       rfl)
     have hcc:=HXS.out X[p] (List.getElem_mem (by exact hlt))
     replace HI:=ti_next HI HGI.out (p + 1)
     obtain ⟨Z1,hW1⟩:∃ W,W = wr.iterAt gi X (p + 1):=⟨_,rfl⟩
     rw [<- hW1] at HI hnx
     clear hW1
     have HLL:=lH (show L.length <= 5 by rw [HL.out.2.2.2.2]; have:=HXZ.out; omega)
     obtain ⟨A6,c6,hV6⟩:=RwL.own_any (ti_ol HI)
     subst hV6
     obtain ⟨cc,hcc0⟩:∃ c,c = X[p]:=⟨_,rfl⟩
     rw [<- hcc0] at hcc HTK hnx
     clear hcc0
     rcases hcc with rfl | rfl | rfl | rfl | rfl
     ·
       have HN:=lH (lh_next (U':={ U with n:=s.n }) HL.out _ HTK.out s.n rfl (by have:=HN0.out; have:=HO0.out; omega) (by rw [used_N,<- HL.out.2.2.1]) _ rfl)
       have c2:=named_ret s.n (by have:=HN0.out; have:=HO0.out; omega)
       rw [okFN] at HN
       obtain ⟨nq,hnq⟩:∃ b,b = nameO s.n.data.toList:=⟨_,rfl⟩
       rw [<- hnq] at HN c2
       clear hnq HL HTK
       go_wp2_with fail
       refine RegW.start (fun W' => W'.cell? ⟨w.heap.size,1,none⟩ = some (.string s.n)) 6 (by kernel_rfl) (ti_cs (ti_drew HI) 1 _ rfl) (fun hHeld => ?_)
       replace HI:=ti_drew HI
       obtain ⟨wd0,hwd0⟩:∃ W,W = Z1.drew:=⟨_,rfl⟩
       rw [<- hwd0] at HI hHeld ⊢
       clear hwd0
       refine RegW.tk 0 rfl ?_
       try simp only [RegW.p]
       refine RegW.tk 1 rfl ?_
       try simp only [RegW.p]
       refine RegW.tk 2 rfl ?_
       try simp only [RegW.p]
       refine RegW.tk 3 rfl ?_
       try simp only [RegW.p]
       refine RegW.tk 4 rfl ?_
       try simp only [RegW.p]
       refine RegW.onlyS 5 rfl (by kernel_rfl) 9 _ _ rfl ⟨gu,1,none⟩ (.string s.n) (by rfl) (by rfl) (lone_store (ti_ou HI) 9 one_s 1 (by show 1 < 6; decide) (.string s.n) rfl) (by kernel_rfl) (ti_cs (ti_set HI 1 (by decide) (.string s.n) { U with n:=s.n } rfl) 1 _ rfl) ?_
       replace HI:=ti_set HI 1 (by decide) (.string s.n) { U with n:=s.n } rfl
       obtain ⟨wy,hwy⟩:∃ W,W = wd0.setCell ⟨gu,1,none⟩ (.string s.n):=⟨_,rfl⟩
       rw [<- hwy] at HI ⊢
       clear hwy hHeld
       try simp only [RegW.p]
       refine RegW.last rfl (by kernel_rfl) (by kernel_rfl) ?_
       cases q
       ·
         have HB1:=lH (show L.length + 1 <= maxLen by have:=HLL.out; unfold maxLen; omega)
         have HB2:=lH (show (L.length + 1) * 16 <= 140737488355328 by have:=HLL.out; omega)
         go_wp2_with (at_builtin; refine app_rows elemS rfl _ _ (by rfl) w wy _ rfl [_,_] [] _ L.length _ (by rfl) HI.out.rows HI.out.since #[.string s.n] 1 1 (by rfl) rfl (Atf.s_one s.n) HB1.out HB2.out ?_; intro V3 w4 HR4 HS4 HK4)
         have HI4:=ti_app HI HR4 HS4 HK4
         have hp9:w4.iterPos gi = p + 1:=by simp [World.iterPos,HI4.out.it]
         clear HR4 HS4 HK4 HI HB1 HB2
         go_wp2_with fail
         go_roundw
         case rel => exact ⟨p + 1,V3,L ++ [s.n],_,false,hlt,rfl,rfl,HN,HI4⟩
         case measure =>
           rw [hmu,hp9]
           omega
       · go_wp2_with fail
         refine (c2 _).mono ?_
         rintro _ w5 ⟨rfl,rfl⟩
         have HB1:=lH (show L.length + 1 <= maxLen by have:=HLL.out; unfold maxLen; omega)
         have HB2:=lH (show (L.length + 1) * 16 <= 140737488355328 by have:=HLL.out; omega)
         go_wp2_with (at_builtin; refine app_rows elemS rfl _ _ (by rfl) w wy _ rfl [_,_] [] _ L.length _ (by rfl) HI.out.rows HI.out.since #[.string s.n] 1 1 (by rfl) rfl (Atf.s_one s.n) HB1.out HB2.out ?_; intro V3 w4 HR4 HS4 HK4)
         have HI4:=ti_app HI HR4 HS4 HK4
         have hp9:w4.iterPos gi = p + 1:=by simp [World.iterPos,HI4.out.it]
         clear HR4 HS4 HK4 HI HB1 HB2
         go_wp2_with fail
         go_roundw
         case rel => exact ⟨p + 1,V3,L ++ [s.n],_,nq,hlt,rfl,rfl,HN,HI4⟩
         case measure =>
           rw [hmu,hp9]
           omega
     ·
       have HN:=lH (lh_next (U':={ U with o:=s.o }) HL.out _ HTK.out s.o rfl (by have:=HN0.out; have:=HO0.out; omega) (by rw [used_O,<- HL.out.2.2.1]) _ rfl)
       have c2:=named_ret s.o (by have:=HN0.out; have:=HO0.out; omega)
       rw [okFO] at HN
       obtain ⟨nq,hnq⟩:∃ b,b = nameO s.o.data.toList:=⟨_,rfl⟩
       rw [<- hnq] at HN c2
       clear hnq HL HTK
       go_wp2_with fail
       refine RegW.start (fun W' => W'.cell? ⟨w.heap.size,2,none⟩ = some (.string s.o)) 6 (by kernel_rfl) (ti_cs (ti_drew HI) 2 _ rfl) (fun hHeld => ?_)
       replace HI:=ti_drew HI
       obtain ⟨wd0,hwd0⟩:∃ W,W = Z1.drew:=⟨_,rfl⟩
       rw [<- hwd0] at HI hHeld ⊢
       clear hwd0
       refine RegW.tk 0 rfl ?_
       try simp only [RegW.p]
       refine RegW.tk 1 rfl ?_
       try simp only [RegW.p]
       refine RegW.tk 2 rfl ?_
       try simp only [RegW.p]
       refine RegW.tk 3 rfl ?_
       try simp only [RegW.p]
       refine RegW.tk 4 rfl ?_
       try simp only [RegW.p]
       refine RegW.onlyS 5 rfl (by kernel_rfl) 9 _ _ rfl ⟨gu,2,none⟩ (.string s.o) (by rfl) (by rfl) (lone_store (ti_ou HI) 9 one_s 2 (by show 2 < 6; decide) (.string s.o) rfl) (by kernel_rfl) (ti_cs (ti_set HI 2 (by decide) (.string s.o) { U with o:=s.o } rfl) 2 _ rfl) ?_
       replace HI:=ti_set HI 2 (by decide) (.string s.o) { U with o:=s.o } rfl
       obtain ⟨wy,hwy⟩:∃ W,W = wd0.setCell ⟨gu,2,none⟩ (.string s.o):=⟨_,rfl⟩
       rw [<- hwy] at HI ⊢
       clear hwy hHeld
       try simp only [RegW.p]
       refine RegW.last rfl (by kernel_rfl) (by kernel_rfl) ?_
       cases q
       ·
         have HB1:=lH (show L.length + 1 <= maxLen by have:=HLL.out; unfold maxLen; omega)
         have HB2:=lH (show (L.length + 1) * 16 <= 140737488355328 by have:=HLL.out; omega)
         go_wp2_with (at_builtin; refine app_rows elemS rfl _ _ (by rfl) w wy _ rfl [_,_] [] _ L.length _ (by rfl) HI.out.rows HI.out.since #[.string s.o] 1 1 (by rfl) rfl (Atf.s_one s.o) HB1.out HB2.out ?_; intro V3 w4 HR4 HS4 HK4)
         have HI4:=ti_app HI HR4 HS4 HK4
         have hp9:w4.iterPos gi = p + 1:=by simp [World.iterPos,HI4.out.it]
         clear HR4 HS4 HK4 HI HB1 HB2
         go_wp2_with fail
         go_roundw
         case rel => exact ⟨p + 1,V3,L ++ [s.o],_,false,hlt,rfl,rfl,HN,HI4⟩
         case measure =>
           rw [hmu,hp9]
           omega
       · go_wp2_with fail
         refine (c2 _).mono ?_
         rintro _ w5 ⟨rfl,rfl⟩
         have HB1:=lH (show L.length + 1 <= maxLen by have:=HLL.out; unfold maxLen; omega)
         have HB2:=lH (show (L.length + 1) * 16 <= 140737488355328 by have:=HLL.out; omega)
         go_wp2_with (at_builtin; refine app_rows elemS rfl _ _ (by rfl) w wy _ rfl [_,_] [] _ L.length _ (by rfl) HI.out.rows HI.out.since #[.string s.o] 1 1 (by rfl) rfl (Atf.s_one s.o) HB1.out HB2.out ?_; intro V3 w4 HR4 HS4 HK4)
         have HI4:=ti_app HI HR4 HS4 HK4
         have hp9:w4.iterPos gi = p + 1:=by simp [World.iterPos,HI4.out.it]
         clear HR4 HS4 HK4 HI HB1 HB2
         go_wp2_with fail
         go_roundw
         case rel => exact ⟨p + 1,V3,L ++ [s.o],_,nq,hlt,rfl,rfl,HN,HI4⟩
         case measure =>
           rw [hmu,hp9]
           omega
     · have HN:=lH (lh_next (U':={ U with f:=s.f }) HL.out 70 HTK.out (bs (wordF s.f)) (list_bs _) (by rw [size_bs]; have:=word_len s.f; omega) (by rw [used_F,<- HL.out.2.2.1]) _ rfl)
       have c2:=word_mk s.f
       rw [okFF] at HN
       obtain ⟨Y,hY⟩:∃ Y,Y = bs (wordF s.f):=⟨_,rfl⟩
       rw [<- hY] at HN c2
       have HY:Hid (Y.data.toList = wordF s.f):=lH (by rw [hY,list_bs])
       clear hY HL HTK
       go_wp2_with fail
       refine RegW.start (fun W' => W'.cell? ⟨w.heap.size,3,none⟩ = some (.int .i64 s.f)) 7 (by kernel_rfl) (ti_cs (ti_drew HI) 3 _ rfl) (fun hHeld => ?_)
       replace HI:=ti_drew HI
       obtain ⟨wd0,hwd0⟩:∃ W,W = Z1.drew:=⟨_,rfl⟩
       rw [<- hwd0] at HI hHeld ⊢
       clear hwd0
       refine RegW.tk 0 rfl ?_
       try simp only [RegW.p]
       refine RegW.tk 1 rfl ?_
       try simp only [RegW.p]
       refine RegW.tk 2 rfl ?_
       try simp only [RegW.p]
       refine RegW.tk 3 rfl ?_
       try simp only [RegW.p]
       refine RegW.tk 5 rfl ?_
       try simp only [RegW.p]
       refine RegW.only (i:=4) rfl (by kernel_rfl) (fun K hK => ?_)
       go_simp
       go_at_call 11
       refine c2.calls0 ?_
       intro w5 h5
       replace HI:=ti_step h5 HI
       clear hHeld
       refine hK.out _ _ (ti_cs HI 3 _ rfl) (fun hHeld => ?_)
       clear hK K h5
       try simp only [RegW.p]
       refine RegW.onlyS 6 rfl (by kernel_rfl) 3 _ _ rfl ⟨gu,3,none⟩ (.int .i64 s.f) (by rfl) (by rfl) (lone_store (ti_ou HI) 3 one_i 3 (by show 3 < 6; decide) (.int .i64 s.f) rfl) (by kernel_rfl) (ti_cs (ti_set HI 3 (by decide) (.int .i64 s.f) { U with f:=s.f } rfl) 3 _ rfl) ?_
       replace HI:=ti_set HI 3 (by decide) (.int .i64 s.f) { U with f:=s.f } rfl
       obtain ⟨wy,hwy⟩:∃ W,W = w5.setCell ⟨gu,3,none⟩ (.int .i64 s.f):=⟨_,rfl⟩
       rw [<- hwy] at HI ⊢
       clear hwy hHeld
       try simp only [RegW.p]
       refine RegW.last rfl (by kernel_rfl) (by kernel_rfl) ?_
       cases q
       ·
         have HB1:=lH (show L.length + 1 <= maxLen by have:=HLL.out; unfold maxLen; omega)
         have HB2:=lH (show (L.length + 1) * 16 <= 140737488355328 by have:=HLL.out; omega)
         go_wp2_with (at_builtin; refine app_rows elemS rfl _ _ (by rfl) w wy _ rfl [_,_] [] _ L.length _ (by rfl) HI.out.rows HI.out.since #[.string Y] 1 1 (by rfl) rfl (Atf.s_one Y) HB1.out HB2.out ?_; intro V3 w4 HR4 HS4 HK4)
         have HI4:=ti_app HI HR4 HS4 HK4
         have hp9:w4.iterPos gi = p + 1:=by simp [World.iterPos,HI4.out.it]
         clear HR4 HS4 HK4 HI HB1 HB2
         go_wp2_with fail
         go_roundw
         case rel => exact ⟨p + 1,V3,L ++ [Y],_,false,hlt,rfl,rfl,HN,HI4⟩
         case measure =>
           rw [hmu,hp9]
           omega
       · by_cases hw:wordF s.f = []
         · have q1:(Y.toList == ([]:List UInt8)) = true:=by rw [toList_d,HY.out,hw]; rfl
           rw [decide_eq_false (fun h9 => h9 hw)] at HN
           clear hw HY
           have HB1:=lH (show L.length + 1 <= maxLen by have:=HLL.out; unfold maxLen; omega)
           have HB2:=lH (show (L.length + 1) * 16 <= 140737488355328 by have:=HLL.out; omega)
           go_wp2_with (at_builtin; refine app_rows elemS rfl _ _ (by rfl) w wy _ rfl [_,_] [] _ L.length _ (by rfl) HI.out.rows HI.out.since #[.string Y] 1 1 (by rfl) rfl (Atf.s_one Y) HB1.out HB2.out ?_; intro V3 w4 HR4 HS4 HK4)
           have HI4:=ti_app HI HR4 HS4 HK4
           have hp9:w4.iterPos gi = p + 1:=by simp [World.iterPos,HI4.out.it]
           clear HR4 HS4 HK4 HI HB1 HB2
           go_wp2_with fail
           go_roundw
           case rel => exact ⟨p + 1,V3,L ++ [Y],_,false,hlt,rfl,rfl,HN,HI4⟩
           case measure =>
             rw [hmu,hp9]
             omega
         · have q1:(Y.toList == ([]:List UInt8)) = false:=by rw [toList_d,HY.out]; exact beq_eq_false_iff_ne.2 hw
           rw [decide_eq_true hw] at HN
           clear hw HY
           have HB1:=lH (show L.length + 1 <= maxLen by have:=HLL.out; unfold maxLen; omega)
           have HB2:=lH (show (L.length + 1) * 16 <= 140737488355328 by have:=HLL.out; omega)
           go_wp2_with (at_builtin; refine app_rows elemS rfl _ _ (by rfl) w wy _ rfl [_,_] [] _ L.length _ (by rfl) HI.out.rows HI.out.since #[.string Y] 1 1 (by rfl) rfl (Atf.s_one Y) HB1.out HB2.out ?_; intro V3 w4 HR4 HS4 HK4)
           have HI4:=ti_app HI HR4 HS4 HK4
           have hp9:w4.iterPos gi = p + 1:=by simp [World.iterPos,HI4.out.it]
           clear HR4 HS4 HK4 HI HB1 HB2
           go_wp2_with fail
           go_roundw
           case rel => exact ⟨p + 1,V3,L ++ [Y],_,true,hlt,rfl,rfl,HN,HI4⟩
           case measure =>
             rw [hmu,hp9]
             omega
     · have c2:Mak 25 #[.string s.b] (.string (bs (hx s.b))):=fun W => Dig.hex_any s.b W (by have:=HB0.out; omega)
       by_cases hb:s.b.data.toList = []
       · have HN:=lH (lh_next (U':={ U with b:=s.b }) HL.out 66 HTK.out (⟨#[45]⟩:ByteArray) (by rw [wdB]; unfold hexW; rw [if_pos hb]) (by decide) (by rw [used_B,<- HL.out.2.2.1]) _ rfl)
         rw [okFB,decide_eq_false (fun h9 => h9 hb),Bool.false_or] at HN
         have c3:=con_ret X
         obtain ⟨ct,hct⟩:∃ b,b = X.data.toList.contains 84:=⟨_,rfl⟩
         rw [<- hct] at HN c3
         have e0:bs (hx s.b) = ⟨#[]⟩:=by
           show bs (Dig.hexL s.b.data.toList) = _
           rw [hb]
           rfl
         rw [e0] at c2
         have q1:((⟨#[]⟩:ByteArray).toList == ([]:List UInt8)) = true:=by decide +kernel
         clear hct hb e0 HL HTK
         go_wp2_with fail
         refine RegW.start (fun W' => W'.cell? ⟨w.heap.size,5,none⟩ = some (.string s.b)) 7 (by kernel_rfl) (ti_cs (ti_drew HI) 5 _ rfl) (fun hHeld => ?_)
         replace HI:=ti_drew HI
         obtain ⟨wd0,hwd0⟩:∃ W,W = Z1.drew:=⟨_,rfl⟩
         rw [<- hwd0] at HI hHeld ⊢
         clear hwd0
         refine RegW.tk 0 rfl ?_
         try simp only [RegW.p]
         refine RegW.tk 1 rfl ?_
         try simp only [RegW.p]
         refine RegW.tk 2 rfl ?_
         try simp only [RegW.p]
         refine RegW.tk 3 rfl ?_
         try simp only [RegW.p]
         refine RegW.tk 5 rfl ?_
         try simp only [RegW.p]
         refine RegW.only (i:=4) rfl (by kernel_rfl) (fun K hK => ?_)
         go_simp
         go_at_call 25
         refine c2.calls0 ?_
         intro w5 h5
         replace HI:=ti_step h5 HI
         clear hHeld
         refine hK.out _ _ (ti_cs HI 5 _ rfl) (fun hHeld => ?_)
         clear hK K h5
         try simp only [RegW.p]
         refine RegW.onlyS 6 rfl (by kernel_rfl) 9 _ _ rfl ⟨gu,5,none⟩ (.string s.b) (by rfl) (by rfl) (lone_store (ti_ou HI) 9 one_s 5 (by show 5 < 6; decide) (.string s.b) rfl) (by kernel_rfl) (ti_cs (ti_set HI 5 (by decide) (.string s.b) { U with b:=s.b } rfl) 5 _ rfl) ?_
         replace HI:=ti_set HI 5 (by decide) (.string s.b) { U with b:=s.b } rfl
         obtain ⟨wy,hwy⟩:∃ W,W = w5.setCell ⟨gu,5,none⟩ (.string s.b):=⟨_,rfl⟩
         rw [<- hwy] at HI ⊢
         clear hwy hHeld
         try simp only [RegW.p]
         refine RegW.last rfl (by kernel_rfl) (by kernel_rfl) ?_
         cases q
         ·
           have HB1:=lH (show L.length + 1 <= maxLen by have:=HLL.out; unfold maxLen; omega)
           have HB2:=lH (show (L.length + 1) * 16 <= 140737488355328 by have:=HLL.out; omega)
           go_wp2_with (at_builtin; refine app_rows elemS rfl _ _ (by rfl) w wy _ rfl [_,_] [] _ L.length _ (by rfl) HI.out.rows HI.out.since #[.string (⟨#[45]⟩:ByteArray)] 1 1 (by rfl) rfl (Atf.s_one (⟨#[45]⟩:ByteArray)) HB1.out HB2.out ?_; intro V3 w4 HR4 HS4 HK4)
           have HI4:=ti_app HI HR4 HS4 HK4
           have hp9:w4.iterPos gi = p + 1:=by simp [World.iterPos,HI4.out.it]
           clear HR4 HS4 HK4 HI HB1 HB2
           go_wp2_with fail
           go_roundw
           case rel => exact ⟨p + 1,V3,L ++ [(⟨#[45]⟩:ByteArray)],_,false,hlt,rfl,rfl,HN,HI4⟩
           case measure =>
             rw [hmu,hp9]
             omega
         · go_wp2_with fail
           refine (c3 _).mono ?_
           rintro _ w5 ⟨rfl,rfl⟩
           have HB1:=lH (show L.length + 1 <= maxLen by have:=HLL.out; unfold maxLen; omega)
           have HB2:=lH (show (L.length + 1) * 16 <= 140737488355328 by have:=HLL.out; omega)
           go_wp2_with (at_builtin; refine app_rows elemS rfl _ _ (by rfl) w wy _ rfl [_,_] [] _ L.length _ (by rfl) HI.out.rows HI.out.since #[.string (⟨#[45]⟩:ByteArray)] 1 1 (by rfl) rfl (Atf.s_one (⟨#[45]⟩:ByteArray)) HB1.out HB2.out ?_; intro V3 w4 HR4 HS4 HK4)
           have HI4:=ti_app HI HR4 HS4 HK4
           have hp9:w4.iterPos gi = p + 1:=by simp [World.iterPos,HI4.out.it]
           clear HR4 HS4 HK4 HI HB1 HB2
           go_wp2_with fail
           go_roundw
           case rel => exact ⟨p + 1,V3,L ++ [(⟨#[45]⟩:ByteArray)],_,ct,hlt,rfl,rfl,HN,HI4⟩
           case measure =>
             rw [hmu,hp9]
             omega
       · obtain ⟨Y,hY⟩:∃ Y,Y = bs (hx s.b):=⟨_,rfl⟩
         have hYl:Y.data.toList = hx s.b:=by rw [hY,list_bs]
         have hYn:hx s.b ≠ []:=fun h9 => hb (by
           have h8:=Dig.hexL_len s.b.data.toList
           rw [show Dig.hexL s.b.data.toList = [] from h9] at h8
           exact List.length_eq_zero_iff.1 (by rw [List.length_nil] at h8; omega))
         have hYz:Y.size <= 80000:=by
           have h8:=Dig.hexL_len s.b.data.toList
           have h9:Y.size = (hx s.b).length:=by rw [<- hYl]; rfl
           have h7:s.b.data.toList.length = s.b.size:=rfl
           have:=HB0.out
           rw [h9]
           show (Dig.hexL s.b.data.toList).length <= _
           omega
         have HN:=lH (lh_next (U':={ U with b:=s.b }) HL.out 66 HTK.out Y (by rw [wdB]; unfold hexW; rw [if_neg hb,hYl]) hYz (by rw [used_B,<- HL.out.2.2.1]) _ rfl)
         rw [okFB,decide_eq_true hb,Bool.true_or,Bool.and_true] at HN
         rw [<- hY] at c2
         have q1:(Y.toList == ([]:List UInt8)) = false:=by rw [toList_d,hYl]; exact beq_eq_false_iff_ne.2 hYn
         clear hY hYl hYn hb hYz HL HTK
         go_wp2_with fail
         refine RegW.start (fun W' => W'.cell? ⟨w.heap.size,5,none⟩ = some (.string s.b)) 7 (by kernel_rfl) (ti_cs (ti_drew HI) 5 _ rfl) (fun hHeld => ?_)
         replace HI:=ti_drew HI
         obtain ⟨wd0,hwd0⟩:∃ W,W = Z1.drew:=⟨_,rfl⟩
         rw [<- hwd0] at HI hHeld ⊢
         clear hwd0
         refine RegW.tk 0 rfl ?_
         try simp only [RegW.p]
         refine RegW.tk 1 rfl ?_
         try simp only [RegW.p]
         refine RegW.tk 2 rfl ?_
         try simp only [RegW.p]
         refine RegW.tk 3 rfl ?_
         try simp only [RegW.p]
         refine RegW.tk 5 rfl ?_
         try simp only [RegW.p]
         refine RegW.only (i:=4) rfl (by kernel_rfl) (fun K hK => ?_)
         go_simp
         go_at_call 25
         refine c2.calls0 ?_
         intro w5 h5
         replace HI:=ti_step h5 HI
         clear hHeld
         refine hK.out _ _ (ti_cs HI 5 _ rfl) (fun hHeld => ?_)
         clear hK K h5
         try simp only [RegW.p]
         refine RegW.onlyS 6 rfl (by kernel_rfl) 9 _ _ rfl ⟨gu,5,none⟩ (.string s.b) (by rfl) (by rfl) (lone_store (ti_ou HI) 9 one_s 5 (by show 5 < 6; decide) (.string s.b) rfl) (by kernel_rfl) (ti_cs (ti_set HI 5 (by decide) (.string s.b) { U with b:=s.b } rfl) 5 _ rfl) ?_
         replace HI:=ti_set HI 5 (by decide) (.string s.b) { U with b:=s.b } rfl
         obtain ⟨wy,hwy⟩:∃ W,W = w5.setCell ⟨gu,5,none⟩ (.string s.b):=⟨_,rfl⟩
         rw [<- hwy] at HI ⊢
         clear hwy hHeld
         try simp only [RegW.p]
         refine RegW.last rfl (by kernel_rfl) (by kernel_rfl) ?_
         have HB1:=lH (show L.length + 1 <= maxLen by have:=HLL.out; unfold maxLen; omega)
         have HB2:=lH (show (L.length + 1) * 16 <= 140737488355328 by have:=HLL.out; omega)
         go_wp2_with (at_builtin; refine app_rows elemS rfl _ _ (by rfl) w wy _ rfl [_,_] [] _ L.length _ (by rfl) HI.out.rows HI.out.since #[.string Y] 1 1 (by rfl) rfl (Atf.s_one Y) HB1.out HB2.out ?_; intro V3 w4 HR4 HS4 HK4)
         have HI4:=ti_app HI HR4 HS4 HK4
         have hp9:w4.iterPos gi = p + 1:=by simp [World.iterPos,HI4.out.it]
         clear HR4 HS4 HK4 HI HB1 HB2
         go_wp2_with fail
         go_roundw
         case rel => exact ⟨p + 1,V3,L ++ [Y],_,q,hlt,rfl,rfl,HN,HI4⟩
         case measure =>
           rw [hmu,hp9]
           omega
     · have HN:=lH (lh_next (U':={ U with t:=s.t }) HL.out 84 HTK.out s.t rfl (by have:=HT0.out; omega) (by rw [used_T,<- HL.out.2.2.1]) _ rfl)
       rw [okFT] at HN
       unfold Rok at HN
       have c2:=Rcd.parse_k s.t HT0.out
       obtain ⟨RR,hRR⟩:∃ r,r = (Rcd.parV s.t).1:=⟨_,rfl⟩
       obtain ⟨E,hE⟩:∃ e,e = (Rcd.parV s.t).2:=⟨_,rfl⟩
       rw [<- hRR,<- hE] at c2
       rw [<- hE] at HN
       have m4:=ti_cs HI 4 _ rfl
       clear hRR hE HL HTK
       go_wp2_with fail
       clear m4
       refine (c2 _ (Kp.keep HT.out HI.out.since)).mono ?_
       rintro _ w5 ⟨x,rfl,hx,h5⟩
       obtain ⟨A5,q5,rfl,-,-⟩:=hx.slice
       replace HI:=ti_step h5 HI
       obtain ⟨K7,k7,l7,u7,m7,v7,e7⟩:=RR
       obtain ⟨n7,hn7⟩:∃ n,n = l7.length:=⟨_,rfl⟩
       dsimp only
       rw [<- hn7]
       have hg5:=heap_alloc_new w5 (.cells #[.int .i64 0,.string ⟨#[]⟩,.slice none 0 0,.string ⟨#[]⟩,.string ⟨#[]⟩,.string ⟨#[]⟩,.string ⟨#[]⟩] 60)
       have hd:Since w5 ((w5.alloc (.cells #[.int .i64 0,.string ⟨#[]⟩,.slice none 0 0,.string ⟨#[]⟩,.string ⟨#[]⟩,.string ⟨#[]⟩,.string ⟨#[]⟩] 60)).setRow w5.heap.size #[.int .i64 K7,.string k7,.slice A5 n7 q5,.string u7,.string m7,.string v7,.string e7]):=below_setRow ((Since.refl w5).alloc _) (Nat.le_refl _) _
       replace HI:=ti_step hd HI
       clear h5 c2 hx hn7 hd
       unfold Rec.rv
       go_wp2_with (refine RwL.at_store (ty:=60) rfl ?_; refine wpList_store_row rfl 60 _ _ rfl w5.heap.size #[.int .i64 K7,.string k7,.slice A5 n7 q5,.string u7,.string m7,.string v7,.string e7] (by rfl) (by rfl) _ _ hg5 (Rcd.r7_info _ _ _ _ _ _ _) rfl (Rcd.r7_one _ _ _ _ _ _ _ _ _) ?_; obtain ⟨w9,hw9⟩:∃ W,W = (w5.alloc (.cells #[.int .i64 0,.string ⟨#[]⟩,.slice none 0 0,.string ⟨#[]⟩,.string ⟨#[]⟩,.string ⟨#[]⟩,.string ⟨#[]⟩] 60)).setRow w5.heap.size #[.int .i64 K7,.string k7,.slice A5 n7 q5,.string u7,.string m7,.string v7,.string e7]:=⟨_,rfl⟩; rw [<- hw9] at HI; rw [show (w5.alloc (.cells #[.int .i64 0,.string ⟨#[]⟩,.slice none 0 0,.string ⟨#[]⟩,.string ⟨#[]⟩,.string ⟨#[]⟩,.string ⟨#[]⟩] 60)).setRow w5.heap.size #[.int .i64 K7,.string k7,.slice A5 n7 q5,.string u7,.string m7,.string v7,.string e7] = w9 from hw9.symm]; clear hw9 hg5)
       refine RegW.start (fun W' => W'.cell? ⟨w.heap.size,4,none⟩ = some (.string s.t)) 6 (by kernel_rfl) (ti_cs (ti_drew HI) 4 _ rfl) (fun hHeld => ?_)
       replace HI:=ti_drew HI
       obtain ⟨wd0,hwd0⟩:∃ W,W = w9.drew:=⟨_,rfl⟩
       rw [<- hwd0] at HI hHeld ⊢
       clear hwd0
       refine RegW.tk 0 rfl ?_
       try simp only [RegW.p]
       refine RegW.tk 1 rfl ?_
       try simp only [RegW.p]
       refine RegW.tk 2 rfl ?_
       try simp only [RegW.p]
       refine RegW.tk 3 rfl ?_
       try simp only [RegW.p]
       refine RegW.tk 4 rfl ?_
       try simp only [RegW.p]
       refine RegW.onlyS 5 rfl (by kernel_rfl) 9 _ _ rfl ⟨gu,4,none⟩ (.string s.t) (by rfl) (by rfl) (lone_store (ti_ou HI) 9 one_s 4 (by show 4 < 6; decide) (.string s.t) rfl) (by kernel_rfl) (ti_cs (ti_set HI 4 (by decide) (.string s.t) { U with t:=s.t } rfl) 4 _ rfl) ?_
       replace HI:=ti_set HI 4 (by decide) (.string s.t) { U with t:=s.t } rfl
       obtain ⟨wy,hwy⟩:∃ W,W = wd0.setCell ⟨gu,4,none⟩ (.string s.t):=⟨_,rfl⟩
       rw [<- hwy] at HI ⊢
       clear hwy hHeld
       try simp only [RegW.p]
       refine RegW.last rfl (by kernel_rfl) (by kernel_rfl) ?_
       cases q
       ·
         have HB1:=lH (show L.length + 1 <= maxLen by have:=HLL.out; unfold maxLen; omega)
         have HB2:=lH (show (L.length + 1) * 16 <= 140737488355328 by have:=HLL.out; omega)
         go_wp2_with (at_builtin; refine app_rows elemS rfl _ _ (by rfl) w wy _ rfl [_,_] [] _ L.length _ (by rfl) HI.out.rows HI.out.since #[.string s.t] 1 1 (by rfl) rfl (Atf.s_one s.t) HB1.out HB2.out ?_; intro V3 w4 HR4 HS4 HK4)
         have HI4:=ti_app HI HR4 HS4 HK4
         have hp9:w4.iterPos gi = p + 1:=by simp [World.iterPos,HI4.out.it]
         clear HR4 HS4 HK4 HI HB1 HB2
         go_wp2_with fail
         go_roundw
         case rel => exact ⟨p + 1,V3,L ++ [s.t],_,false,hlt,rfl,rfl,HN,HI4⟩
         case measure =>
           rw [hmu,hp9]
           omega
       · by_cases he:E = 0
         · subst he
           rw [decide_eq_true rfl] at HN
           have HB1:=lH (show L.length + 1 <= maxLen by have:=HLL.out; unfold maxLen; omega)
           have HB2:=lH (show (L.length + 1) * 16 <= 140737488355328 by have:=HLL.out; omega)
           go_wp2_with (at_builtin; refine app_rows elemS rfl _ _ (by rfl) w wy _ rfl [_,_] [] _ L.length _ (by rfl) HI.out.rows HI.out.since #[.string s.t] 1 1 (by rfl) rfl (Atf.s_one s.t) HB1.out HB2.out ?_; intro V3 w4 HR4 HS4 HK4)
           have HI4:=ti_app HI HR4 HS4 HK4
           have hp9:w4.iterPos gi = p + 1:=by simp [World.iterPos,HI4.out.it]
           clear HR4 HS4 HK4 HI HB1 HB2
           go_wp2_with fail
           go_roundw
           case rel => exact ⟨p + 1,V3,L ++ [s.t],_,true,hlt,rfl,rfl,HN,HI4⟩
           case measure =>
             rw [hmu,hp9]
             omega
         · have q1:(E == 0) = false:=beq_eq_false_iff_ne.2 he
           rw [decide_eq_false he] at HN
           clear he
           have HB1:=lH (show L.length + 1 <= maxLen by have:=HLL.out; unfold maxLen; omega)
           have HB2:=lH (show (L.length + 1) * 16 <= 140737488355328 by have:=HLL.out; omega)
           go_wp2_with (at_builtin; refine app_rows elemS rfl _ _ (by rfl) w wy _ rfl [_,_] [] _ L.length _ (by rfl) HI.out.rows HI.out.since #[.string s.t] 1 1 (by rfl) rfl (Atf.s_one s.t) HB1.out HB2.out ?_; intro V3 w4 HR4 HS4 HK4)
           have HI4:=ti_app HI HR4 HS4 HK4
           have hp9:w4.iterPos gi = p + 1:=by simp [World.iterPos,HI4.out.it]
           clear HR4 HS4 HK4 HI HB1 HB2
           go_wp2_with fail
           go_roundw
           case rel => exact ⟨p + 1,V3,L ++ [s.t],_,false,hlt,rfl,rfl,HN,HI4⟩
           case measure =>
             rw [hmu,hp9]
             omega
   · obtain rfl:p = X.size:=by omega
     have hnx:∀ ty,(Instr.next (.pointer (some ⟨gi,0,none⟩)) true ty).run Tryz.prog wr = .ok (.tuple #[.bool false]) wr:=fun ty => Lib.run_next_end_at (P:=Tryz.prog) wr gi X _ ty HI.out.it (by omega)
     have hh:=HL.out
     unfold LH at hh
     rw [List.take_of_length_le (by exact Nat.le_refl _),HXL.out,HK0.out] at hh
     have hxs:StrsS wr _ L:=SlR.own (ti_ol HI)
     obtain ⟨A6,c6,hV6⟩:=RwL.own_any (ti_ol HI)
     subst hV6
     have hjl:(Sp.joinC 32 (L.map (·.data.toList))).length <= 500000:=by
       have h1:=Rcd.join_size 32 (L.map (·.data.toList)) 80000 (fun y hy => by
         obtain ⟨x,hx,rfl⟩:=List.mem_map.1 hy
         exact hh.2.2.2.1 x hx)
       rw [List.length_map] at h1
       have h2:=HXZ.out
       have h3:=hh.2.2.2.2
       have h4:L.length * 80001 <= 5 * 80001:=Nat.mul_le_mul_right _ (by omega)
       exact Nat.le_trans h1 (Nat.le_trans h4 (by decide))
     have c2:=Rcd.join_sp 32 L (by omega) (by have:=hh.2.2.2.2; have:=HXZ.out; omega) wr _ hxs
     obtain ⟨J,hJ⟩:∃ J,J = bs (Sp.joinC 32 (L.map (·.data.toList))):=⟨_,rfl⟩
     rw [<- hJ] at c2
     have hJl:J.data.toList = lineW s (layD s.v.data.toList):=by
       rw [hJ,list_bs,hh.2.1]
       rfl
     have hJz:J.size <= 500000:=by rw [hJ,size_bs]; exact hjl
     have hU:=hh.2.2.1
     have hq:=hh.1
     have HJL:=lH hJl
     have HHQ:=lH hq
     have HHU:=lH hU
     have hle:decide ((40000:Int) < (J.size:Int)) = decide (¬ (lineW s (layD s.v.data.toList)).length <= 40000):=by
       rw [<- hJl]
       show decide ((40000:Int) < (J.size:Int)) = decide (¬ J.size <= 40000)
       by_cases h9:J.size <= 40000
       · rw [decide_eq_false (by omega),decide_eq_false (fun h => h h9)]
       · rw [decide_eq_true (by omega),decide_eq_true h9]
     have HLE:=lH hle
     clear hh hjl hJ hJl hxs HL hU hq hle
     go_wp2_with fail
     refine c2.mono ?_
     rintro _ w5 ⟨rfl,h5⟩
     replace HI:=ti_step h5 HI
     clear h5 c2 hnx
     cases q
     · have HV:Hid (R = ⟨#[]⟩):=lH (by rw [HRR.out,text_no s HHQ.out.symm]; rfl)
       go_wp2_with fail
       go_ret
       rw [HV.out]
       exact ⟨rfl,HI.out.since⟩
     have HYES:=lH (text_yes s HHQ.out.symm)
     have q0:(s.v.toList == s.v.toList) = true:=beq_self_eq_true _
     obtain ⟨b1,hb1⟩:∃ b,b = eB (layD s.v.data.toList) 78 s.n:=⟨_,rfl⟩
     obtain ⟨b2,hb2⟩:∃ b,b = eB (layD s.v.data.toList) 79 s.o:=⟨_,rfl⟩
     obtain ⟨b3,hb3⟩:∃ b,b = ((layD s.v.data.toList).contains 70 || decide (s.f = 0)):=⟨_,rfl⟩
     obtain ⟨b4,hb4⟩:∃ b,b = eB (layD s.v.data.toList) 84 s.t:=⟨_,rfl⟩
     obtain ⟨b5,hb5⟩:∃ b,b = eB (layD s.v.data.toList) 66 s.b:=⟨_,rfl⟩
     have HUO:Hid (usedO s (layD s.v.data.toList) = (b1 && (b2 && (b3 && (b4 && b5))))):=lH (by rw [hb1,hb2,hb3,hb4,hb5]; rfl)
     have q1:=eq_keep (layD s.v.data.toList) 78 s.n
     have q2:=eq_keep (layD s.v.data.toList) 79 s.o
     have q3:=eq_f (layD s.v.data.toList) s.f
     have q4:=eq_keep (layD s.v.data.toList) 84 s.t
     have q5:=eq_keep (layD s.v.data.toList) 66 s.b
     rw [<- hb1] at q1
     rw [<- hb2] at q2
     rw [<- hb3] at q3
     rw [<- hb4] at q4
     rw [<- hb5] at q5
     rw [HHU.out] at HI
     obtain ⟨kn,hkn⟩:∃ k,k = keep (layD s.v.data.toList) 78 s.n:=⟨_,rfl⟩
     obtain ⟨ko,hko⟩:∃ k,k = keep (layD s.v.data.toList) 79 s.o:=⟨_,rfl⟩
     obtain ⟨kf,hkf⟩:∃ k,k = (if (layD s.v.data.toList).contains 70 = true then s.f else 0):=⟨_,rfl⟩
     obtain ⟨kt,hkt⟩:∃ k,k = keep (layD s.v.data.toList) 84 s.t:=⟨_,rfl⟩
     obtain ⟨kb,hkb⟩:∃ k,k = keep (layD s.v.data.toList) 66 s.b:=⟨_,rfl⟩
     have hUU:used s (layD s.v.data.toList) = ⟨s.v,kn,ko,kf,kt,kb⟩:=by rw [hkn,hko,hkf,hkt,hkb]; rfl
     rw [hUU] at HI
     rw [<- hkn] at q1
     rw [<- hko] at q2
     rw [<- hkf] at q3
     rw [<- hkt] at q4
     rw [<- hkb] at q5
     have m0:=ti_cs HI 0 _ rfl
     have m1:=ti_cs HI 1 _ rfl
     have m2:=ti_cs HI 2 _ rfl
     have m3:=ti_cs HI 3 _ rfl
     have m4:=ti_cs HI 4 _ rfl
     have m5:=ti_cs HI 5 _ rfl
     have n0:=ti_cu HI 0 _ rfl
     have n1:=ti_cu HI 1 _ rfl
     have n2:=ti_cu HI 2 _ rfl
     have n3:=ti_cu HI 3 _ rfl
     have n4:=ti_cu HI 4 _ rfl
     have n5:=ti_cu HI 5 _ rfl
     clear hb1 hb2 hb3 hb4 hb5 hkn hko hkf hkt hkb hUU HHU HHQ
     cases b1
     ·
       have HV:Hid (R = ⟨#[]⟩):=lH (by rw [HRR.out,HYES.out,if_neg (fun h => by have h9:=HUO.out.symm.trans h.1; cases h9)]; rfl)
       go_wp2_with fail
       go_ret
       rw [HV.out]
       exact ⟨rfl,HI.out.since⟩
     cases b2
     ·
       have HV:Hid (R = ⟨#[]⟩):=lH (by rw [HRR.out,HYES.out,if_neg (fun h => by have h9:=HUO.out.symm.trans h.1; cases h9)]; rfl)
       go_wp2_with fail
       go_ret
       rw [HV.out]
       exact ⟨rfl,HI.out.since⟩
     cases b3
     ·
       have HV:Hid (R = ⟨#[]⟩):=lH (by rw [HRR.out,HYES.out,if_neg (fun h => by have h9:=HUO.out.symm.trans h.1; cases h9)]; rfl)
       go_wp2_with fail
       go_ret
       rw [HV.out]
       exact ⟨rfl,HI.out.since⟩
     cases b4
     ·
       have HV:Hid (R = ⟨#[]⟩):=lH (by rw [HRR.out,HYES.out,if_neg (fun h => by have h9:=HUO.out.symm.trans h.1; cases h9)]; rfl)
       go_wp2_with fail
       go_ret
       rw [HV.out]
       exact ⟨rfl,HI.out.since⟩
     cases b5
     ·
       have HV:Hid (R = ⟨#[]⟩):=lH (by rw [HRR.out,HYES.out,if_neg (fun h => by have h9:=HUO.out.symm.trans h.1; cases h9)]; rfl)
       go_wp2_with fail
       go_ret
       rw [HV.out]
       exact ⟨rfl,HI.out.since⟩
     by_cases hz:(lineW s (layD s.v.data.toList)).length <= 40000
     · have t1:decide ((40000:Int) < (J.size:Int)) = false:=HLE.out.trans (decide_eq_false (fun h => h hz))
       have HV:Hid (R = J):=lH (by rw [HRR.out,HYES.out,if_pos ⟨HUO.out,hz⟩]; exact bs_eq HJL.out)
       clear hz
       go_wp2_with fail
       go_ret
       rw [HV.out]
       exact ⟨rfl,HI.out.since⟩
     · have t1:decide ((40000:Int) < (J.size:Int)) = true:=HLE.out.trans (decide_eq_true hz)
       have HV:Hid (R = ⟨#[]⟩):=lH (by rw [HRR.out,HYES.out,if_neg (fun h => hz h.2)]; rfl)
       clear hz
       go_wp2_with fail
       go_ret
       rw [HV.out]
       exact ⟨rfl,HI.out.since⟩
end Scr
namespace Scr
open Rw RwL Kind
open Rcd (hx)
theorem unhex_u (s:ByteArray) (hm:s.size <= 140737488355328):∃ B,Mak 21 #[.string s] (.tuple #[.string (Dig.unS s.data.toList),.bool B]):=by
 have hl:s.data.toList.length = s.size:=rfl
 by_cases h:s.size % 2 = 0
 · have e:Dig.unB s.data.toList = Dig.okN s.data.toList (s.size / 2):=by
     unfold Dig.unB
     rw [hl,decide_eq_true h,Bool.true_and]
   exact ⟨Dig.unB s.data.toList,fun w => Dig.unhex_even s (s.size / 2) w hm (by omega) _ _ e (by unfold Dig.unS; rw [e,hl])⟩
 · have e:Dig.unS s.data.toList = ⟨#[]⟩:=by
     unfold Dig.unS Dig.unB
     rw [hl,decide_eq_false h,Bool.false_and]
     rfl
   rw [e]
   exact ⟨false,fun w => Dig.unhex_odd s w hm (by omega)⟩
theorem unS_size (l:List UInt8):(Dig.unS l).size <= l.length:=by
 unfold Dig.unS
 split
 · rw [strOfNums_size,List.length_map,List.length_range]
   omega
 · exact Nat.zero_le _
theorem head_le (l:List UInt8):(headP l).1.length <= l.length /\ (headP l).2.length <= l.length:=by
 by_cases h:(32:UInt8) ∈ l
 · obtain ⟨k,hk,h1,h2⟩:=Sp.at_ex _ _ h
   have e:=head_join (l.take k) [l.drop (k + 1)] h2
   have e2:Sp.joinC 32 [l.take k,l.drop (k + 1)] = l:=h1.symm
   rw [e2] at e
   rw [e]
   exact ⟨by rw [List.length_take]; omega,by show (l.drop (k + 1)).length <= _; rw [List.length_drop]; omega⟩
 · have e:headP l = (l,[]):=by
     unfold headP
     rw [Sp.splN_miss 32 1 _ h]
   rw [e]
   exact ⟨Nat.le_refl _,Nat.zero_le _⟩
theorem head_cut (s:ByteArray) (hm:s.size <= 1000000):∃ q,Mak 18 #[.string s,.string ⟨#[32]⟩] (.tuple #[.string (bs (headP s.data.toList).1),.string (bs (headP s.data.toList).2),.bool q]):=by
 by_cases h:(32:UInt8) ∈ s.data.toList
 · obtain ⟨k,hk,h1,h2⟩:=Sp.at_ex _ _ h
   have c1:=Cut.cut_at s 32 k (by omega) hk _ _ rfl rfl
   have e:headP s.data.toList = (s.data.toList.take k,s.data.toList.drop (k + 1)):=by
     unfold headP
     rw [h1,Sp.splN_hit 32 0 _ _ h2]
     have e2:Sp.splN 32 (0 + 1) (s.data.toList.drop (k + 1)) = [s.data.toList.drop (k + 1)]:=by
       unfold Sp.splN
       have h3:0 < (Sp.pcs 32 (s.data.toList.drop (k + 1))).length:=List.length_pos_iff.2 (Sp.pcs_ne 32 _)
       show [] ++ (if 0 < (Sp.pcs 32 (s.data.toList.drop (k + 1))).length then [Sp.joinC 32 (Sp.pcs 32 (s.data.toList.drop (k + 1)))] else []) = _
       rw [if_pos h3,Sp.join_pcs]
       rfl
     rw [e2,<- h1]
   have ea:s.extract 0 k = bs (s.data.toList.take k):=ba_ext (by rw [ext_list,list_bs]; rfl)
   have eb:s.extract (k + 1) s.size = bs (s.data.toList.drop (k + 1)):=ba_ext (by
     rw [ext_list,list_bs]
     exact List.take_of_length_le (by rw [List.length_drop]; exact Nat.le_refl _))
   rw [ea,eb] at c1
   rw [e]
   exact ⟨true,c1⟩
 · have c1:=(Cut.cut_none s 32 h).mak
   have e:headP s.data.toList = (s.data.toList,[]):=by
     unfold headP
     rw [Sp.splN_miss 32 1 _ h]
   rw [e,bs_l]
   exact ⟨false,c1⟩
theorem split0 (s:ByteArray):Ret 20 #[.string s,.string ⟨#[32]⟩,.int .i64 0] (.slice none 0 0):=by
 intro w
 go_enter Tryz.func20,Tryz.ntmps20
 go_wp2_with fail
 have c1:Ret 36 #[.string s,.string ⟨#[32]⟩,.int .i64 0,.int .i64 0] (.slice none 0 0):=by
   intro w
   go_enter Tryz.func36,Tryz.ntmps36
   go_wp2_with fail
   go_ret
   exact ⟨rfl,rfl⟩
 refine (c1).calls ?_
 go_wp2_with fail
 go_ret
 exact ⟨rfl,rfl⟩
theorem splN_len (c:UInt8) (n:Nat) (hn:1 <= n) (s:List UInt8):(Sp.splN c n s).length <= n:=by
 unfold Sp.splN
 rw [List.length_append,List.length_take]
 split
 · show _ + 1 <= _
   omega
 · show _ + 0 <= _
   omega
theorem parts_mk (s fs:ByteArray) (hf:fs.size <= 4) (hs:s.size <= 1000000) (w:World):Calls Tryz.prog 20 #[.string s,.string ⟨#[32]⟩,.int .i64 (fs.size:Int)] w fun e w' => ∃ V L,e = .returned V /\ StrsS w' V L /\ L.map (·.data.toList) = partsP fs.data.toList s.data.toList /\ (∀ x ∈ L,x.size <= s.size) /\ L.length <= fs.size /\ Since w w':=by
 by_cases h0:fs.size = 0
 · have e:fs.data.toList = []:=List.length_eq_zero_iff.1 h0
   have ep:partsP fs.data.toList s.data.toList = []:=by unfold partsP; rw [if_pos e]
   rw [h0,ep]
   refine (split0 s w).mono ?_
   rintro _ _ ⟨rfl,rfl⟩
   exact ⟨_,[],rfl,SlR.nil _ _,rfl,by simp,Nat.le_refl _,Since.refl _⟩
 · have ep:partsP fs.data.toList s.data.toList = Sp.splN 32 fs.size s.data.toList:=by
     unfold partsP
     rw [if_neg (fun h9 => h0 (by show fs.data.toList.length = 0; rw [h9]; rfl))]
     rfl
   rw [ep]
   refine (Sp.splitN_mk s 32 fs.size (by omega) (by omega) hs w).mono ?_
   rintro _ w' ⟨N,L,rfl,h1,h2,h3,h4⟩
   refine ⟨_,L,rfl,h1,h2,h3, ?_,h4⟩
   have h5:=congrArg List.length h2
   rw [List.length_map] at h5
   rw [h5]
   exact splN_len 32 _ (by omega) _
structure PI (w w5:World) (r b:Nat) (S:St) (W:World):Prop where
 rows:Rw.Rows W w.heap.size ([] ++ RwL.lone 26 b (sc S) :: RwL.lone 26 r (sc noS) :: [])
 low:Below w5.heap.size w5 W
section
variable {w w5 W W':World} {r b:Nat} {S:St}
theorem pi_step (hb:Since W W') (h:Hid (PI w w5 r b S W)):Hid (PI w w5 r b S W'):=lH ⟨h.out.rows.since hb,h.out.low.trans (Below.mono hb h.out.low.size)⟩
theorem pi_cells (h:Hid (PI w w5 r b S W)) (i:Nat) (x:Value) (hx:(sc S)[i]? = some x):W.cell? ⟨b,i,none⟩ = some x /\ W.frozen? ⟨b,i,none⟩ = false:=RwL.lone_cell (h.out.rows.own (RwL.lone 26 b (sc S)) (by simp)) i x hx
theorem pi_set (h:Hid (PI w w5 r b S W)) (hb:w5.heap.size <= b) (i:Nat) (hi:i < 6) (x:Value) (S':St) (hS:sc S' = (sc S).set i x):Hid (PI w w5 r b S' (W.setCell ⟨b,i,none⟩ x)):=by
 refine lH ⟨?_,Below.setCell (p:=⟨b,i,none⟩) h.out.low hb x⟩
 have h1:=Rw.Rows.set (A:=[]) (B:=[RwL.lone 26 r (sc noS)]) (xs:=sc S) h.out.rows i (by show i < 1 * (sc S).length; show i < 1 * 6; omega) x
 rw [<- hS] at h1
 exact h1
theorem pi_res (h:Hid (PI w w5 r b S W)):W.heap[r]? = some (.cells (sc noS).toArray 26 (0,0)):=RwL.lone_heap (h.out.rows.own (RwL.lone 26 r (sc noS)) (by simp))
theorem pi_new (hr:(RwL.lone 26 r (sc noS)).own w5 w.heap.size) (hb:w.heap.size <= w5.heap.size) (S:St):PI w w5 r w5.heap.size S (w5.alloc (.cells (sc S).toArray 26)):=by
 refine ⟨rows_push ⟨fun q hq => by rw [List.mem_singleton.1 hq]; exact hr,by simp⟩ hb (sc S) 26,(Below.refl _ _).alloc (Nat.le_refl _) _⟩
end
theorem s6_info (a b c d e f:Value):(Tryz.prog.info? 26).map (·.size) = some (#[a,b,c,d,e,f]:Array Value).size:=by kernel_rfl
theorem s6_one (S:St):(sc S).toArray.all (·.oneCell') = true:=by
 rw [Array.all_eq_true]
 intro j hj
 have hj6:j < 6:=hj
 match j,hj6 with
 | 0,_ | 1,_ | 2,_ | 3,_ | 4,_ | 5,_ => rfl
end Scr
namespace Scr
open Rw RwL Kind
open Rcd (hx)
def QH (Lz:List (UInt8 × ByteArray)) (v:ByteArray) (j:Nat) (S:St):Prop:=S = foldS ⟨v,E0,E0,0,E0,E0⟩ (Lz.take j) /\ S.n.size <= 40000 /\ S.o.size <= 40000 /\ S.t.size <= 40000 /\ S.b.size <= 40000 /\ S.v.size <= 40000
theorem foldS_snoc (s:St) (l:List (UInt8 × ByteArray)) (c:UInt8) (p:ByteArray):foldS s (l ++ [(c,p)]) = setF (foldS s l) c p:=by
 unfold foldS
 rw [List.foldl_append]
 rfl
theorem qh_next {Lz:List (UInt8 × ByteArray)} {v:ByteArray} {j:Nat} {S:St} (h:QH Lz v j S) (c:UInt8) (y:ByteArray) (hc:Lz.take (j + 1) = Lz.take j ++ [(c,y)]) (hy:y.size <= 40000):QH Lz v (j + 1) (setF S c y):=by
 obtain ⟨h1,h2,h3,h4,h5,h6⟩:=h
 refine ⟨by rw [hc,foldS_snoc,<- h1], ?_⟩
 have hu:(Dig.unS y.data.toList).size <= 40000:=Nat.le_trans (unS_size _) hy
 unfold setF
 split
 · exact ⟨hy,h3,h4,h5,h6⟩
 split
 · exact ⟨h2,hy,h4,h5,h6⟩
 split
 · exact ⟨h2,h3,h4,h5,h6⟩
 split
 · exact ⟨h2,h3,h4,hu,h6⟩
 split
 · exact ⟨h2,h3,hy,h5,h6⟩
 · exact ⟨h2,h3,h4,h5,h6⟩
theorem zip_take (fs:List UInt8) (L:List ByteArray) (j:Nat) (c:UInt8) (y:ByteArray) (hc:fs[j]? = some c) (hy:L[j]? = some y):(fs.zip L).take (j + 1) = (fs.zip L).take j ++ [(c,y)]:=by
 rw [List.take_add_one]
 have e:(fs.zip L)[j]? = some (c,y):=by
   rw [List.getElem?_zip_eq_some]
   exact ⟨hc,hy⟩
 rw [e]
 rfl
theorem map_bs (L:List ByteArray) (P:List (List UInt8)) (h:L.map (·.data.toList) = P):P.map bs = L:=by
 rw [<- h,List.map_map]
 have e:(bs ∘ fun x:ByteArray => x.data.toList) = id:=by
   funext x
   exact bs_l x
 rw [e,List.map_id]
set_option maxHeartbeats 16000000 in
theorem pars_k (t:ByteArray) (hm:t.size <= 1000000):KMk Tab2 7 #[.string t] (.tuple #[.agg (sc (parsV Rok candP t.data.toList).1).toArray,.int .i64 (parsV Rok candP t.data.toList).2]):=by
 intro w hT
 have HT:=lH hT
 obtain ⟨R,hR⟩:∃ R,R = parsV Rok candP t.data.toList:=⟨_,rfl⟩
 rw [<- hR]
 have HR:=lH hR
 clear hT hR
 have hlr:=rows_push (Rows.nil w w.heap.size) (Nat.le_refl _) (sc noS) 26
 by_cases hz:40000 < t.size
 · have HV:Hid (R = (noS,4)):=lH (by rw [HR.out]; unfold parsV; rw [if_pos (by exact hz)])
   have hg:=lH (heap_alloc_new w (.cells (sc noS).toArray 26))
   have HS:=lH ((Since.refl w).alloc (.cells (sc noS).toArray 26))
   have hone:=s6_one noS
   clear hlr
   unfold sc noS E0 at hg HS hone
   go_enter Tryz.func7,Tryz.ntmps7
   go_wp2_with (refine RwL.at_store (ty:=26) rfl ?_; refine wpList_store_row rfl 26 _ _ rfl w.heap.size #[.string ⟨#[]⟩,.string ⟨#[]⟩,.string ⟨#[]⟩,.int .i64 0,.string ⟨#[]⟩,.string ⟨#[]⟩] (by rfl) (by rfl) _ _ hg.out (s6_info _ _ _ _ _ _) rfl hone ?_)
   exact bodyPost_ret (v:=.tuple #[.agg #[.string ⟨#[]⟩,.string ⟨#[]⟩,.string ⟨#[]⟩,.int .i64 0,.string ⟨#[]⟩,.string ⟨#[]⟩],.int .i64 4]) (results_cell_tmp2 Tryz.results7 _ _ _ _ _ _ _ _ rfl rfl (setRow_heap _ _ _ _ _ _ hg.out) Tryz.underlying26 rfl (s6_info _ _ _ _ _ _)) rfl ⟨by rw [HV.out]; rfl,below_setRow HS.out (Nat.le_refl _) _⟩
 obtain ⟨q,c1⟩:=head_cut t hm
 obtain ⟨v,hv⟩:∃ v,v = bs (headP t.data.toList).1:=⟨_,rfl⟩
 obtain ⟨rest,hr⟩:∃ r,r = bs (headP t.data.toList).2:=⟨_,rfl⟩
 rw [<- hv,<- hr] at c1
 have hvl:v.data.toList = (headP t.data.toList).1:=by rw [hv,list_bs]
 have hrl:rest.data.toList = (headP t.data.toList).2:=by rw [hr,list_bs]
 have hvz:v.size <= 40000 /\ rest.size <= 40000:=by
   have h1:=head_le t.data.toList
   have h2:v.size = (headP t.data.toList).1.length:=by rw [<- hvl]; rfl
   have h3:rest.size = (headP t.data.toList).2.length:=by rw [<- hrl]; rfl
   have h4:t.data.toList.length = t.size:=rfl
   omega
 obtain ⟨X,hX⟩:∃ X,X = bs (layD v.data.toList):=⟨_,rfl⟩
 have hXl:X.data.toList = layD v.data.toList:=by rw [hX,list_bs]
 have hXz:X.size <= 4:=by
   show X.data.toList.length <= 4
   rw [hXl]
   exact lay_len _
 have HXS:=lH (lay_sub v.data.toList)
 rw [<- hXl] at HXS
 have c2:=layout_ret v
 rw [<- hX] at c2
 obtain ⟨ky,hky⟩:∃ k,k = layI v.data.toList:=⟨_,rfl⟩
 rw [<- hky] at c2
 have HVZ:=lH hvz
 have HHL:=lH (show headP t.data.toList = (v.data.toList,rest.data.toList) by rw [hvl,hrl])
 have HXL:=lH hXl
 have HM:=lH hz
 have HLR:=lH (hlr.own (RwL.lone 26 w.heap.size (sc noS)) (by simp))
 have HS:=lH ((Since.refl w).alloc (.cells (sc noS).toArray 26))
 have t1:decide ((40000:Int) < (t.size:Int)) = false:=decide_eq_false (by omega)
 clear hv hr hvl hrl hvz hX hXl hky hlr hz hm
 unfold sc noS E0 at HS
 go_enter Tryz.func7,Tryz.ntmps7
 go_wp2_with fail
 refine c1.calls0 ?_
 intro w1 h1
 replace HS:=lH (HS.out.step h1)
 replace HLR:=lH (Att.row_since HLR.out h1)
 clear h1
 go_wp2_with fail
 refine (c2).calls ?_
 go_wp2_with fail
 refine (parts_mk rest X hXz (by have:=HVZ.out.2; omega) w1).mono ?_
 rintro _ w5 ⟨V,L,rfl,hs,hL,hlz,hln,h5⟩
 replace HS:=lH (HS.out.step h5)
 replace HLR:=lH (Att.row_since HLR.out h5)
 obtain ⟨A,cp,rfl,-,-⟩:=hs.slice
 obtain ⟨m,hmm⟩:∃ m,m = L.length:=⟨_,rfl⟩
 have HLM:=lH hmm.symm
 rw [<- hmm] at hs hln ⊢
 have HSS:=lH hs
 have HLP:=lH hL
 have HLZ:=lH hlz
 have HB5:=lH (Nat.le_refl w5.heap.size)
 have HI:=lH (pi_new HLR.out HS.out.size ⟨v,E0,E0,0,E0,E0⟩)
 clear hmm hs hL hlz h5 HLR
 unfold E0 at HI
 go_wp2_with fail
 go_loopw [36] (fun i wr => ∃ (j:Nat) (S:St),j <= m /\ i = .int .i64 (j:Int) /\ Hid (QH (X.data.toList.zip L) v j S) /\ Hid (PI w w5 w.heap.size w5.heap.size S wr)) (fun i _ => m - (intOf i).toNat)
 case atStart => exact ⟨0,⟨v,E0,E0,0,E0,E0⟩,Nat.zero_le _,rfl,lH ⟨by rw [List.take_zero]; rfl,Nat.zero_le _,Nat.zero_le _,Nat.zero_le _,Nat.zero_le _,HVZ.out.1⟩,HI⟩
 case round =>
   clear HI
   obtain ⟨j,S,hj,rfl,HQ,HI⟩:=hrel
   by_cases hlt:j < m
   · obtain ⟨y,hy⟩:∃ y,L[j]? = some y:=⟨L[j]'(by rw [HLM.out]; exact hlt),List.getElem?_eq_getElem _⟩
     obtain ⟨b9,o9,c9,hv9,_,_,_,h4⟩:=SlR.form (SlR.since HSS.out HI.out.low) (show 0 < L.length by rw [HLM.out]; omega)
     have m4:=h4 j (.string y) (by rw [List.getElem?_map,hy]; rfl)
     obtain ⟨rfl,-,rfl⟩:=Value.slice.inj hv9
     have hyz:y.size <= 40000:=Nat.le_trans (HLZ.out y (List.mem_of_getElem? hy)) HVZ.out.2
     have hjx:j < X.size:=by omega
     have i1:(0:Int) <= (j:Int):=by omega
     have i2:(j:Int) < (m:Int):=by omega
     have i3:(j:Int) < (X.size:Int):=by omega
     have hcx:X.data.toList[j]? = some X[j]:=List.getElem?_eq_getElem (by exact hjx)
     have HZ:=lH (zip_take _ _ j _ _ hcx hy)
     have hcc:=HXS.out X[j] (List.getElem_mem (by exact hjx))
     obtain ⟨cc,hcn⟩:∃ c,X[j] = c:=⟨_,rfl⟩
     rw [hcn] at hcc HZ
     have HN0:=lH (qh_next HQ.out cc y HZ.out hyz)
     clear h4 hy hcx HZ
     rcases hcc with rfl | rfl | rfl | rfl | rfl
     ·
       have q78:((X[j].toNat:Int) == 78) = true:=by rw [hcn]; rfl
       have q79:((X[j].toNat:Int) == 79) = false:=by rw [hcn]; rfl
       have q70:((X[j].toNat:Int) == 70) = false:=by rw [hcn]; rfl
       have q66:((X[j].toNat:Int) == 66) = false:=by rw [hcn]; rfl
       have q84:((X[j].toNat:Int) == 84) = false:=by rw [hcn]; rfl
       clear hcn
       have HN:=HN0
       rw [setN] at HN
       have k1:=pi_cells HI 1 _ rfl
       go_wp2_with fail
       go_roundw
       case rel => exact ⟨j + 1,{ S with n:=y },hlt,by go_num,HN,pi_set HI HB5.out 1 (by decide) (.string y) _ rfl⟩
       case measure => (simp [intOf] <;> omega)
     ·
       have q78:((X[j].toNat:Int) == 78) = false:=by rw [hcn]; rfl
       have q79:((X[j].toNat:Int) == 79) = true:=by rw [hcn]; rfl
       have q70:((X[j].toNat:Int) == 70) = false:=by rw [hcn]; rfl
       have q66:((X[j].toNat:Int) == 66) = false:=by rw [hcn]; rfl
       have q84:((X[j].toNat:Int) == 84) = false:=by rw [hcn]; rfl
       clear hcn
       have HN:=HN0
       rw [setO] at HN
       have k1:=pi_cells HI 2 _ rfl
       go_wp2_with fail
       go_roundw
       case rel => exact ⟨j + 1,{ S with o:=y },hlt,by go_num,HN,pi_set HI HB5.out 2 (by decide) (.string y) _ rfl⟩
       case measure => (simp [intOf] <;> omega)
     ·
       have q78:((X[j].toNat:Int) == 78) = false:=by rw [hcn]; rfl
       have q79:((X[j].toNat:Int) == 79) = false:=by rw [hcn]; rfl
       have q70:((X[j].toNat:Int) == 70) = true:=by rw [hcn]; rfl
       have q66:((X[j].toNat:Int) == 66) = false:=by rw [hcn]; rfl
       have q84:((X[j].toNat:Int) == 84) = false:=by rw [hcn]; rfl
       clear hcn
       have HN:=HN0
       rw [setFm] at HN
       have c4:=format_mk y (by omega)
       obtain ⟨F,hF⟩:∃ F,F = fmtW y.data.toList:=⟨_,rfl⟩
       rw [<- hF] at c4 HN
       clear hF
       go_wp2_with fail
       refine c4.calls0 ?_
       intro w7 h7
       replace HI:=pi_step h7 HI
       clear h7
       have k1:=pi_cells HI 3 _ rfl
       go_wp2_with fail
       go_roundw
       case rel => exact ⟨j + 1,{ S with f:=F },hlt,by go_num,HN,pi_set HI HB5.out 3 (by decide) (.int .i64 F) _ rfl⟩
       case measure => (simp [intOf] <;> omega)
     ·
       have q78:((X[j].toNat:Int) == 78) = false:=by rw [hcn]; rfl
       have q79:((X[j].toNat:Int) == 79) = false:=by rw [hcn]; rfl
       have q70:((X[j].toNat:Int) == 70) = false:=by rw [hcn]; rfl
       have q66:((X[j].toNat:Int) == 66) = true:=by rw [hcn]; rfl
       have q84:((X[j].toNat:Int) == 84) = false:=by rw [hcn]; rfl
       clear hcn
       have HN:=HN0
       rw [setB] at HN
       obtain ⟨bq,c4⟩:=unhex_u y (by omega)
       obtain ⟨F,hF⟩:∃ F,F = Dig.unS y.data.toList:=⟨_,rfl⟩
       rw [<- hF] at c4 HN
       clear hF
       go_wp2_with fail
       refine c4.calls0 ?_
       intro w7 h7
       replace HI:=pi_step h7 HI
       clear h7
       have k1:=pi_cells HI 5 _ rfl
       go_wp2_with fail
       go_roundw
       case rel => exact ⟨j + 1,{ S with b:=F },hlt,by go_num,HN,pi_set HI HB5.out 5 (by decide) (.string F) _ rfl⟩
       case measure => (simp [intOf] <;> omega)
     ·
       have q78:((X[j].toNat:Int) == 78) = false:=by rw [hcn]; rfl
       have q79:((X[j].toNat:Int) == 79) = false:=by rw [hcn]; rfl
       have q70:((X[j].toNat:Int) == 70) = false:=by rw [hcn]; rfl
       have q66:((X[j].toNat:Int) == 66) = false:=by rw [hcn]; rfl
       have q84:((X[j].toNat:Int) == 84) = true:=by rw [hcn]; rfl
       clear hcn
       have HN:=HN0
       rw [setT] at HN
       have k1:=pi_cells HI 4 _ rfl
       go_wp2_with fail
       go_roundw
       case rel => exact ⟨j + 1,{ S with t:=y },hlt,by go_num,HN,pi_set HI HB5.out 4 (by decide) (.string y) _ rfl⟩
       case measure => (simp [intOf] <;> omega)
   · obtain rfl:j = m:=by omega
     have hcand:candP t.data.toList = S:=by
       unfold candP
       rw [HHL.out]
       dsimp only
       rw [<- HXL.out,map_bs L _ HLP.out,bs_l,HQ.out.1]
       rw [List.take_of_length_le (by rw [List.length_zip,HLM.out]; exact Nat.min_le_right _ _)]
     have HCA:=lH hcand
     have HSZ:=lH HQ.out.2
     have hone:=s6_one S
     have c5:=text_k S HSZ.out.1 HSZ.out.2.1 HSZ.out.2.2.1 HSZ.out.2.2.2.1 HSZ.out.2.2.2.2
     obtain ⟨Y,hY⟩:∃ Y,Y = bs (textV Rok S):=⟨_,rfl⟩
     rw [<- hY] at c5
     have hYl:Y.data.toList = textV Rok S:=by rw [hY,list_bs]
     have HYL:=lH hYl
     have k0:=(pi_cells HI 0 _ rfl).1
     have k1:=(pi_cells HI 1 _ rfl).1
     have k2:=(pi_cells HI 2 _ rfl).1
     have k3:=(pi_cells HI 3 _ rfl).1
     have k4:=(pi_cells HI 4 _ rfl).1
     have k5:=(pi_cells HI 5 _ rfl).1
     clear hcand hY hYl HQ
     have hg:=lH (pi_res HI)
     by_cases h0:t.data.toList = []
     · have q0:(t.toList == ([]:List UInt8)) = true:=by rw [toList_d,h0]; rfl
       have HV:Hid (R = (noS,5)):=lH (by
         rw [HR.out]
         unfold parsV
         rw [if_neg (show ¬ 40000 < t.data.toList.length from HM.out),if_neg (fun h9 => h9.1 h0)])
       replace HS:=lH (HS.out.step HI.out.low)
       have hone:=s6_one noS
       clear h0 k0 k1 k2 k3 k4 k5
       unfold sc noS E0 at hg hone
       go_wp2_with (refine RwL.at_store (ty:=26) rfl ?_; refine wpList_store_row rfl 26 _ _ rfl w.heap.size #[.string ⟨#[]⟩,.string ⟨#[]⟩,.string ⟨#[]⟩,.int .i64 0,.string ⟨#[]⟩,.string ⟨#[]⟩] (by rfl) (by rfl) _ _ hg.out (s6_info _ _ _ _ _ _) rfl hone ?_)
       exact bodyPost_ret (v:=.tuple #[.agg #[.string ⟨#[]⟩,.string ⟨#[]⟩,.string ⟨#[]⟩,.int .i64 0,.string ⟨#[]⟩,.string ⟨#[]⟩],.int .i64 5]) (results_cell_tmp2 Tryz.results7 _ _ _ _ _ _ _ _ rfl rfl (setRow_heap _ _ _ _ _ _ hg.out) Tryz.underlying26 rfl (s6_info _ _ _ _ _ _)) rfl ⟨by rw [HV.out]; rfl,below_setRow HS.out (Nat.le_refl _) _⟩
     · have q0:(t.toList == ([]:List UInt8)) = false:=by rw [toList_d]; exact beq_eq_false_iff_ne.2 h0
       by_cases hq:textV Rok S = t.data.toList
       · have q1:(Y.toList == t.toList) = true:=by rw [toList_d,toList_d,HYL.out,hq]; exact beq_self_eq_true _
         have HV:Hid (R = (S,0)):=lH (by
           rw [HR.out]
           unfold parsV
           rw [if_neg (show ¬ 40000 < t.data.toList.length from HM.out),HCA.out,if_pos ⟨h0,hq⟩])
         clear h0 hq
         go_wp2_with fail
         refine c5.calls0 (Kp.keep HT.out (HS.out.step HI.out.low)) ?_
         intro w7 h7
         replace HI:=pi_step h7 HI
         replace HS:=lH (HS.out.step HI.out.low)
         replace hg:=lH (pi_res HI)
         replace k0:=(pi_cells HI 0 _ rfl).1
         replace k1:=(pi_cells HI 1 _ rfl).1
         replace k2:=(pi_cells HI 2 _ rfl).1
         replace k3:=(pi_cells HI 3 _ rfl).1
         replace k4:=(pi_cells HI 4 _ rfl).1
         replace k5:=(pi_cells HI 5 _ rfl).1
         clear h7
         unfold sc at hone
         go_wp2_with (refine RwL.at_store (ty:=26) rfl ?_; refine wpList_store_row rfl 26 _ _ rfl w.heap.size #[.string S.v,.string S.n,.string S.o,.int .i64 S.f,.string S.t,.string S.b] (by rfl) (by rfl) _ _ hg.out (s6_info _ _ _ _ _ _) rfl hone ?_)
         exact bodyPost_ret (v:=.tuple #[.agg #[.string S.v,.string S.n,.string S.o,.int .i64 S.f,.string S.t,.string S.b],.int .i64 0]) (results_cell_tmp2 Tryz.results7 _ _ _ _ _ _ _ _ rfl rfl (setRow_heap _ _ _ _ _ _ hg.out) Tryz.underlying26 rfl (s6_info _ _ _ _ _ _)) rfl ⟨by rw [HV.out]; rfl,below_setRow HS.out (Nat.le_refl _) _⟩
       · have q1:(Y.toList == t.toList) = false:=by rw [toList_d,toList_d,HYL.out]; exact beq_eq_false_iff_ne.2 hq
         have HV:Hid (R = (noS,5)):=lH (by
           rw [HR.out]
           unfold parsV
           rw [if_neg (show ¬ 40000 < t.data.toList.length from HM.out),HCA.out,if_neg (fun h9 => hq h9.2)])
         clear h0 hq hone
         have hone:=s6_one noS
         go_wp2_with fail
         refine c5.calls0 (Kp.keep HT.out (HS.out.step HI.out.low)) ?_
         intro w7 h7
         replace HI:=pi_step h7 HI
         replace HS:=lH (HS.out.step HI.out.low)
         replace hg:=lH (pi_res HI)
         clear h7 k0 k1 k2 k3 k4 k5
         unfold sc noS E0 at hg hone
         go_wp2_with (refine RwL.at_store (ty:=26) rfl ?_; refine wpList_store_row rfl 26 _ _ rfl w.heap.size #[.string ⟨#[]⟩,.string ⟨#[]⟩,.string ⟨#[]⟩,.int .i64 0,.string ⟨#[]⟩,.string ⟨#[]⟩] (by rfl) (by rfl) _ _ hg.out (s6_info _ _ _ _ _ _) rfl hone ?_)
         exact bodyPost_ret (v:=.tuple #[.agg #[.string ⟨#[]⟩,.string ⟨#[]⟩,.string ⟨#[]⟩,.int .i64 0,.string ⟨#[]⟩,.string ⟨#[]⟩],.int .i64 5]) (results_cell_tmp2 Tryz.results7 _ _ _ _ _ _ _ _ rfl rfl (setRow_heap _ _ _ _ _ _ hg.out) Tryz.underlying26 rfl (s6_info _ _ _ _ _ _)) rfl ⟨by rw [HV.out]; rfl,below_setRow HS.out (Nat.le_refl _) _⟩
end Scr
namespace Scr
open Rw RwL Kind
def stepsF (R:ByteArray -> Bool) (C:List UInt8 -> St):Nat -> List (List UInt8) -> List St -> List St × Int × Int
 | _,[],acc => (acc,0,0)
 | i,p :: P,acc => if (parsV R C p).2 = 0 then stepsF R C (i + 1) P (acc ++ [(parsV R C p).1]) else ([],(parsV R C p).2,(i:Int) + 1)
def linV (R:ByteArray -> Bool) (C:List UInt8 -> St) (t:List UInt8):List St × Int × Int :=
 if (Sp.pcs 10 t).getLastD [] ≠ [] then ([],5,((Sp.pcs 10 t).length:Int))
 else if 200 < (Sp.pcs 10 t).length - 1 then ([],17,201) else stepsF R C 0 (Sp.pcs 10 t).dropLast []
theorem steps_same (R:ByteArray -> Bool):∀ (P:List (List UInt8)) (i:Nat) (acc:List St),stepsF R candR i P acc = stepsF R candP i P acc
 | [],_,_ => rfl
 | p :: P,i,acc => by
   unfold stepsF
   rw [pars_same R p,steps_same R P]
theorem lin_same (R:ByteArray -> Bool) (t:List UInt8):linV R candR t = linV R candP t:=by
 unfold linV
 rw [steps_same]
theorem count_pcs (c:UInt8):∀ l:List UInt8,l.count c + 1 = (Sp.pcs c l).length
 | [] => rfl
 | x :: l => by
   have ih:=count_pcs c l
   rw [Sp.pcs]
   by_cases h:x = c
   · rw [if_pos h,h,List.count_cons_self,List.length_cons,ih]
   · rw [if_neg h,List.count_cons_of_ne h,ih]
     cases hp:Sp.pcs c l with
     | nil => exact absurd hp (Sp.pcs_ne c l)
     | cons w ws => rfl
theorem last_pcs (c:UInt8):∀ l:List UInt8,((Sp.pcs c l).getLastD [] ≠ []) ↔ (l ≠ [] /\ ¬ [c] <:+ l)
 | [] => by
   constructor
   · intro h; exact absurd rfl h
   · intro h; exact absurd rfl h.1
 | x :: l => by
   have ih:=last_pcs c l
   have hne:=Sp.pcs_ne c l
   by_cases h:x = c
   · have e:(Sp.pcs c (x :: l)).getLastD [] = (Sp.pcs c l).getLastD []:=by
       rw [Sp.pcs,if_pos h]
       cases hp:Sp.pcs c l with
       | nil => exact absurd hp hne
       | cons w ws => simp [List.getLastD]
     rw [e,ih]
     cases l with
     | nil =>
       constructor
       · intro h9; exact absurd rfl h9.1
       · intro h9; exact absurd (by rw [h]; exact List.suffix_refl _) h9.2
     | cons y l =>
       constructor
       · intro h9
         refine ⟨List.cons_ne_nil _ _,fun h8 => h9.2 ?_⟩
         rcases List.suffix_cons_iff.1 h8 with h7 | h7
         · cases h7
         · exact h7
       · intro h9
         exact ⟨List.cons_ne_nil _ _,fun h8 => h9.2 (List.suffix_cons_iff.2 (Or.inr h8))⟩
   · cases hp:Sp.pcs c l with
     | nil => exact absurd hp hne
     | cons w ws =>
       have e:Sp.pcs c (x :: l) = (x :: w) :: ws:=by rw [Sp.pcs,if_neg h,hp]
       rw [e]
       cases ws with
       | nil =>
         have hfree:c ∉ l:=by
           have h1:=Sp.join_pcs c l
           rw [hp] at h1
           have h2:=Sp.pcs_free c l w (by rw [hp]; exact List.mem_cons_self ..)
           rw [<- h1]
           exact h2
         constructor
         · intro _
           refine ⟨List.cons_ne_nil _ _,fun h8 => ?_⟩
           have h7:c ∈ x :: l:=h8.subset (List.mem_singleton_self _)
           rcases List.mem_cons.1 h7 with h7 | h7
           · exact h h7.symm
           · exact hfree h7
         · intro _
           show (x :: w) ≠ []
           exact List.cons_ne_nil _ _
       | cons v vs =>
         have e2:((x :: w) :: v :: vs).getLastD [] = (w :: v :: vs).getLastD []:=by simp [List.getLastD]
         rw [e2,<- hp,ih]
         constructor
         · intro h9
           refine ⟨List.cons_ne_nil _ _,fun h8 => h9.2 ?_⟩
           rcases List.suffix_cons_iff.1 h8 with h7 | h7
           · have:c = x:=(List.cons.inj h7).1
             exact absurd this.symm h
           · exact h7
         · intro h9
           refine ⟨fun h8 => ?_,fun h8 => h9.2 (List.suffix_cons_iff.2 (Or.inr h8))⟩
           rw [h8] at hp
           cases hp
theorem line_cut (s:ByteArray) (hm:s.size <= 1000000) (p:List UInt8) (P:List (List UInt8)) (hP:P ≠ []) (h:Sp.pcs 10 s.data.toList = p :: P):∃ B:ByteArray,Mak 18 #[.string s,.string ⟨#[10]⟩] (.tuple #[.string (bs p),.string B,.bool true]) /\ Sp.pcs 10 B.data.toList = P /\ B.size <= s.size /\ p.length <= s.size:=by
 have hin:(10:UInt8) ∈ s.data.toList:=by
   refine Classical.byContradiction fun h9 => ?_
   rw [Sp.pcs_one 10 _ h9] at h
   have:=(List.cons.inj h).2
   exact hP this.symm
 obtain ⟨k,hk,h1,h2⟩:=Sp.at_ex _ _ hin
 have c1:=Cut.cut_at s 10 k (by omega) hk _ _ rfl rfl
 have e:=Sp.pcs_cut 10 (s.data.toList.take k) (s.data.toList.drop (k + 1)) h2
 rw [<- h1,h] at e
 obtain ⟨rfl,rfl⟩:=List.cons.inj e
 have ea:s.extract 0 k = bs (s.data.toList.take k):=ba_ext (by rw [ext_list,list_bs]; rfl)
 have eb:(s.extract (k + 1) s.size).data.toList = s.data.toList.drop (k + 1):=by
   rw [ext_list]
   exact List.take_of_length_le (by rw [List.length_drop]; exact Nat.le_refl _)
 rw [ea] at c1
 exact ⟨_,c1,by rw [eb],by rw [ByteArray.size_extract]; omega,by
   rw [List.length_take]
   exact Nat.min_le_right _ _⟩
theorem elemSt:ElemIs 37 26 (.agg #[.string ⟨#[]⟩,.string ⟨#[]⟩,.string ⟨#[]⟩,.int .i64 0,.string ⟨#[]⟩,.string ⟨#[]⟩]) 6 88:=⟨Tryz.underlying37,by kernel_rfl,rfl,by decide⟩
theorem sc_one (S:St):∀ u ∈ sc S,u.oneCell' = true:=by
 intro u hu
 unfold sc at hu
 simp only [List.mem_cons,List.not_mem_nil,or_false] at hu
 rcases hu with rfl | rfl | rfl | rfl | rfl | rfl <;> rfl
structure NI (w:World) (r:Nat) (V:Value) (acc:List St) (W:World):Prop where
 rows:Rw.Rows W w.heap.size ([RwL.lone 39 r [.int .i64 0,.int .i64 0]] ++ ⟨26,6,V,acc.length,acc.flatMap sc⟩ :: [])
 since:Since w W
section
variable {w W W':World} {r:Nat} {V:Value} {acc:List St}
theorem ni_step (hb:Since W W') (h:Hid (NI w r V acc W)):Hid (NI w r V acc W'):=lH ⟨h.out.rows.since hb,h.out.since.step hb⟩
theorem ni_res (h:Hid (NI w r V acc W)):W.heap[r]? = some (.cells #[.int .i64 0,.int .i64 0] 39 (0,0)):=RwL.lone_heap (h.out.rows.own (RwL.lone 39 r [.int .i64 0,.int .i64 0]) (by simp))
theorem ni_own (h:Hid (NI w r V acc W)):W.ownsRow w.heap.size 26 6 V acc.length (acc.flatMap sc):=h.out.rows.own ⟨26,6,V,acc.length,acc.flatMap sc⟩ (by simp)
theorem ni_new (w:World):NI w w.heap.size (.slice none 0 0) [] (w.alloc (.cells #[.int .i64 0,.int .i64 0] 39)):=by
 have h1:=rows_push (Rows.nil w w.heap.size) (Nat.le_refl _) [.int .i64 0,.int .i64 0] 39
 exact ⟨Rw.Rows.add_nil h1 _ _,(Since.refl w).alloc _⟩
theorem ni_app {V2:Value} {S:St} (hr:Rw.Rows W' w.heap.size ([RwL.lone 39 r [.int .i64 0,.int .i64 0]] ++ ⟨26,6,V2,acc.length + 1,acc.flatMap sc ++ (sc S).toArray.toList⟩ :: [])) (hs:Since w W'):Hid (NI w r V2 (acc ++ [S]) W'):=by
 refine lH ⟨?_,hs⟩
 rw [List.length_append,List.flatMap_append]
 simpa using hr
end
end Scr
end Go.Proofs.YtcdjfmlanicjlaaGreatDoor
