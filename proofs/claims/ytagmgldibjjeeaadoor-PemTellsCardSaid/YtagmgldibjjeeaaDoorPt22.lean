import Derived.Test.YtagmgldibjjeeaaDoorPt21
import Derived.Test.YtagmgldibjjeeaaDoorPt12
import Derived.Maps.OwnIn
set_option maxRecDepth 100000
namespace Go.Proofs.YtagmgldibjjeeaaDoor
open Go.RowKit Go.Shelf
attribute [local go_sem] Oper.semAt_some
namespace Pm
theorem row_turn {W W':World} {row:Option Nat} {base size n:Nat} {e:TypeId} {v:Value} {xs:List Value} (h:W.ownsRow base e size v n xs) (hg:W.grownBy W' row) (hr:∀ r,row = some r -> ∃ o:Obj,W.heap[r]? = some o /\ o.isCells = false):W'.ownsRow base e size v n xs:=by
 refine h.kept hg ?_
 rcases h.2 with ⟨rfl,_⟩ | ⟨g,cap,cur,rfl,_,hgb,_⟩
 · exact .inl rfl
 · refine .inr fun e' => ?_
   obtain ⟨o,ho,hc⟩:=hr g (by simpa [Value.ownBlock] using e'.symm)
   rw [hgb] at ho; cases ho; cases hc
theorem rows_turn {W W':World} {row:Option Nat} {base:Nat} {rs:List Rw.Row} (h:Rw.Rows W base rs) (hg:W.grownBy W' row) (hr:∀ r,row = some r -> ∃ o:Obj,W.heap[r]? = some o /\ o.isCells = false):Rw.Rows W' base rs :=
 ⟨fun r hr2 => row_turn (h.own r hr2) hg hr,h.apart⟩
theorem rows_app {wr w':World} {base:Nat} {A B:List Rw.Row} {E:TypeId} {size:Nat} {v:Value} {n:Nat} {xs:List Value} {tmp:Obj} (hown:Rw.Rows wr base (A ++ ⟨E,size,v,n,xs⟩ :: B)) (v':Value) (m:Nat) (ys:List Value) (ho':w'.ownsRow base E size v' m ys) (hg:(wr.alloc tmp).grownBy w' v.ownBlock) (hw:v'.ownBlock = v.ownBlock ∨ v'.ownBlock = some (wr.alloc tmp).heap.size):Rw.Rows w' base (A ++ ⟨E,size,v',m,ys⟩ :: B):=by
 refine hown.turn ⟨E,size,v',m,ys⟩ ho' fun u hu hap => ⟨?_, ?_⟩
 · refine (World.ownsRow.alloc hu _).kept hg ?_
   cases hub:u.v.ownBlock with
   | none => exact Or.inl rfl
   | some g => exact Or.inr fun e => hap g e.symm hub
 · intro g h2 h3
   rcases hw with hw | hw
   · exact hap g (hw ▸ h2) h3
   · rw [show (⟨E,size,v',m,ys⟩:Rw.Row).v = v' from rfl,hw] at h2
     cases h2
     have h4:=(World.ownsRow.lt hu _ h3).2
     have e4:(wr.alloc tmp).heap.size = wr.heap.size + 1:=by simp
     omega
def AS (base B0 Bn:Nat) (C:Value) (W:World) (V:Value) (l:List ByteArray):Prop:=Rw.Rows W base (RwL.lone 40 B0 [V] :: ⟨9,1,V,l.length,l.map Value.string⟩ :: RwL.lone 9 Bn [C] :: [])
section
variable {base B0 Bn:Nat} {C:Value} {W W':World} {V:Value} {l:List ByteArray}
theorem AS.turn {row:Option Nat} (h:AS base B0 Bn C W V l) (hg:W.grownBy W' row) (hr:∀ r,row = some r -> ∃ o:Obj,W.heap[r]? = some o /\ o.isCells = false):AS base B0 Bn C W' V l:=rows_turn h hg hr
theorem AS.setC (h:AS base B0 Bn C W V l) (C2:Value):AS base B0 Bn C2 (W.setCell ⟨Bn,0,none⟩ C2) V l :=
 Rw.Rows.set (A:=[RwL.lone 40 B0 [V],⟨9,1,V,l.length,l.map Value.string⟩]) (B:=[]) (xs:=[C]) h 0 Nat.zero_lt_one C2
theorem AS.setV {l2:List ByteArray} {V2:Value} (h:Rw.Rows W base (RwL.lone 40 B0 [V] :: ⟨9,1,V2,l2.length,l2.map Value.string⟩ :: RwL.lone 9 Bn [C] :: [])):AS base B0 Bn C (W.setCell ⟨B0,0,none⟩ V2) V2 l2 :=
 Rw.Rows.set (A:=[]) (B:=[⟨9,1,V2,l2.length,l2.map Value.string⟩,RwL.lone 9 Bn [C]]) (xs:=[V]) h 0 Nat.zero_lt_one V2
theorem AS.cell (h:AS base B0 Bn C W V l):W.cell? ⟨B0,0,none⟩ = some V /\ W.frozen? ⟨B0,0,none⟩ = false:=RwL.lone_cell (h.own (RwL.lone 40 B0 [V]) (by simp)) 0 V rfl
theorem AS.it (h:AS base B0 Bn C W V l):W.heap[Bn]? = some (.cells #[C] 9 (0,0)):=RwL.lone_heap (h.own (RwL.lone 9 Bn [C]) (by simp))
theorem AS.row (h:AS base B0 Bn C W V l):W.ownsRow base 9 1 V l.length (l.map Value.string):=h.own ⟨9,1,V,l.length,l.map Value.string⟩ (by simp)
theorem AS.app {w1:World} {tmp:Obj} {V2:Value} {ms:List ByteArray} (h:AS base B0 Bn C W V l) (hb:base <= W.heap.size) (hB:base <= B0) (hown:w1.ownsRow base 9 1 V2 (l.length + ms.length) (l.map Value.string ++ ms.map Value.string)) (hg:(W.alloc tmp).grownBy w1 V.ownBlock) (hw:V2.ownBlock = V.ownBlock ∨ V2.ownBlock = some (W.alloc tmp).heap.size) :
   (w1.cell? ⟨B0,0,none⟩ = some V /\ w1.frozen? ⟨B0,0,none⟩ = false) /\ AS base B0 Bn C (w1.setCell ⟨B0,0,none⟩ V2) V2 (l ++ ms) /\ KeepsOthers W (w1.setCell ⟨B0,0,none⟩ V2) /\ Below base W (w1.setCell ⟨B0,0,none⟩ V2):=by
 have h1:Rw.Rows w1 base (RwL.lone 40 B0 [V] :: ⟨9,1,V2,(l ++ ms).length,(l ++ ms).map Value.string⟩ :: RwL.lone 9 Bn [C] :: []):=by
   rw [List.length_append,List.map_append]
   exact rows_app (A:=[RwL.lone 40 B0 [V]]) (B:=[RwL.lone 9 Bn [C]]) h V2 _ _ hown hg hw
 refine ⟨RwL.lone_cell (h1.own (RwL.lone 40 B0 [V]) (by simp)) 0 V rfl,AS.setV h1, ?_, ?_⟩
 · refine ((KeepsOthers.alloc W tmp).trans (KeepsOthers.of_grownBy hg fun j o ej hj => ?_)).trans (KeepsOthers.setCell _ _ _)
   rcases (h.row.alloc tmp).2 with ⟨rfl,_⟩ | ⟨g,cap,cur,rfl,_,hgb,_⟩
   · simp [Value.ownBlock] at ej
   · obtain rfl:g = j:=by simpa [Value.ownBlock] using ej
     rw [hgb] at hj; cases hj; rfl
 · refine (((Below.refl base W).alloc hb tmp).grown hg (by simp; omega) fun j ej => ?_).setCell (p:=⟨B0,0,none⟩) hB V2
   rcases h.row.2 with ⟨rfl,_⟩ | ⟨g,cap,cur,rfl,hb9,_,_⟩
   · simp [Value.ownBlock] at ej
   · obtain rfl:g = j:=by simpa [Value.ownBlock] using ej
     exact hb9
end
def begB:ByteArray:=⟨#[45,45,45,45,45,66,69,71,73,78,32]⟩
def endB:ByteArray:=⟨#[45,45,45,45,45,69,78,68,32]⟩
def dshB:ByteArray:=⟨#[45,45,45,45,45,10]⟩
def tsL (nm:ByteArray) (pre:List AP):List ByteArray:=[begB,nm,dshB] ++ pre.flatMap fun x => [x.1,⟨#[10]⟩]
theorem ts_snoc (nm:ByteArray) (pre:List AP) (x:AP):tsL nm (pre ++ [x]) = tsL nm pre ++ [x.1,⟨#[10]⟩]:=by
 unfold tsL
 rw [List.flatMap_append,List.append_assoc]
 rfl
theorem ts_len (nm:ByteArray) (pre:List AP):(tsL nm pre).length = 3 + 2 * pre.length:=by
 unfold tsL
 rw [List.length_append]
 have h:(pre.flatMap fun x => [x.1,(⟨#[10]⟩:ByteArray)]).length = 2 * pre.length:=by
   induction pre with
   | nil => rfl
   | cons a pre ih => rw [List.flatMap_cons,List.length_append,ih]; simp only [List.length_cons,List.length_nil]; omega
 rw [h]
 rfl
theorem lines_len:∀ (f:Nat) (l:List UInt8),(linesF f l).length <= f
 | 0,_ => Nat.le_refl _
 | f + 1,l => by
   unfold linesF
   split
   · exact Nat.zero_le _
   · rw [List.length_cons]
     exact Nat.succ_le_succ (lines_len f _)
theorem body_len (ls:List (List UInt8)):(bodyL ls).length = ls.flatten.length + ls.length:=by
 unfold bodyL
 induction ls with
 | nil => rfl
 | cons a ls ih => rw [List.flatMap_cons,List.length_append,ih,List.flatten_cons,List.length_append,List.length_append]; simp only [List.length_cons,List.length_nil]; omega
theorem inter_nil (l:List (List UInt8)):([]:List UInt8).intercalate l = l.flatten:=by
 induction l with
 | nil => simp [List.intercalate]
 | cons a r ih =>
   cases r with
   | nil => simp [List.intercalate]
   | cons b r =>
     have e:([]:List UInt8).intercalate (a :: b :: r) = a ++ ([] ++ ([]:List UInt8).intercalate (b :: r)):=by simp [List.intercalate]
     rw [e,ih,List.flatten_cons]
     rfl
theorem flat_T (T:List AP):((T.flatMap fun x => [x.1,(⟨#[10]⟩:ByteArray)]).map (·.data.toList)).flatten = bodyL (T.map fun x => x.1.data.toList):=by
 induction T with
 | nil => rfl
 | cons a T ih =>
   rw [List.flatMap_cons,List.map_append,List.flatten_append,ih]
   unfold bodyL
   simp
theorem ts_flat (nm b:ByteArray) (T:List AP) (hT:T.map (fun x => x.1.data.toList) = linesL (baseL b.data.toList)):((tsL nm T ++ [endB,nm,dshB]).map (·.data.toList)).flatten = armorL nm.data.toList b.data.toList:=by
 unfold armorL tsL
 rw [List.map_append,List.map_append,List.flatten_append,List.flatten_append,flat_T,hT]
 simp only [List.map_cons,List.map_nil,List.flatten_cons,List.flatten_nil,List.append_nil,List.append_assoc]
 rfl
theorem armor_len (nm b:List UInt8) (hn:nm.length <= 100000) (hb:b.length <= 100000):(armorL nm b).length <= 1000000:=by
 have h1:=body_len (linesL (baseL b))
 rw [flat_lines] at h1
 have h2:=lines_len (baseL b).length (baseL b)
 have h3:=base_len b
 have h4:(linesL (baseL b)).length <= (baseL b).length:=h2
 unfold armorL
 simp only [List.length_append]
 have h5:begL.length = 11:=rfl
 have h6:endL.length = 9:=rfl
 have h7:dshL.length = 6:=rfl
 omega
theorem own_cell {W:World} {base:Nat} {ty:TypeId} {n g c:Nat} {xs:List Value} (h:W.ownsRow base ty 1 (.slice (some ⟨g,0,none⟩) n c) n xs) (i:Nat) (x:Value) (hx:xs[i]? = some x):W.cell? ⟨g,i,none⟩ = some x:=by
 rcases h.2 with ⟨h0,_⟩ | ⟨g',cap,cur,hv,hb,hg,hc,hm,hs,ht⟩
 · cases h0
 · cases hv
   unfold World.cell?
   rw [hg]
   rw [<- ht,List.getElem?_take] at hx
   split at hx
   · simpa using hx
   · cases hx
theorem own_addr {W:World} {base:Nat} {ty:TypeId} {n:Nat} {V:Value} {xs:List Value} (h:W.ownsRow base ty 1 V n xs) (hn:0 < n):∃ g c,V = .slice (some ⟨g,0,none⟩) n c /\ n <= c /\ g < W.heap.size:=by
 rcases h.2 with ⟨h0,h1⟩ | ⟨g',cap,cur,hv,hb,hg,hc,_⟩
 · omega
 · exact ⟨_,_,hv,hc,(Array.getElem?_eq_some_iff.1 hg).1⟩
theorem lit_cells (w:World) (t:TypeId) (l:List ByteArray) (C:Array Value) (hC:C.toList = l.map Value.string):∀ (j:Nat) u,(l.map Value.string)[j]? = some u -> (w.alloc (.cells C t)).cell? ((⟨w.heap.size,0,none⟩:Addr).add j) = some u:=by
 intro j u hu
 have hadd:(⟨w.heap.size,0,none⟩:Addr).add j = ⟨w.heap.size,j,none⟩:=by unfold Addr.add; split <;> simp_all
 rw [hadd,World.cell?_alloc_new,<- hu,<- hC,Array.getElem?_toList]
theorem strs_one (l:List ByteArray):∀ u ∈ l.map Value.string,u.oneCell' = true:=by
 intro u hu
 obtain ⟨x,_,rfl⟩:=List.mem_map.1 hu
 rfl
theorem own_n (A:Option Addr) (n m c:Nat):(Value.slice A n c).ownBlock = (Value.slice A m c).ownBlock:=by cases A <;> rfl
theorem own_lone {W':World} {B g:Nat} {t:TypeId} {C:List Value} (hb:B <= g) (hg:W'.heap[g]? = some (.cells C.toArray t (0,0))):(RwL.lone t g C).own W' B :=
 ⟨by simp [RwL.lone],.inr ⟨g,1,C.toArray,rfl,hb,hg,Nat.le_refl _,by decide,by simp [RwL.lone],by simp [RwL.lone]⟩⟩
theorem as_mk {W:World} {base X0 B0 Bn:Nat} {x y z:ByteArray} {C:Value} (hX:W.heap[X0]? = some (.cells #[.string x,.string y,.string z] 9 (0,0))) (hB:W.heap[B0]? = some (.cells #[.slice (some ⟨X0,0,none⟩) 3 3] 40 (0,0))) (hN:W.heap[Bn]? = some (.cells #[C] 9 (0,0))) (h1:base <= X0) (h2:base <= B0) (h3:base <= Bn) (n1:X0 ≠ B0) (n2:X0 ≠ Bn) (n3:B0 ≠ Bn):AS base B0 Bn C W (.slice (some ⟨X0,0,none⟩) 3 3) [x,y,z]:=by
 refine ⟨fun r hr => ?_, ?_⟩
 · rcases List.mem_cons.1 hr with rfl | hr
   · exact own_lone (C:=[.slice (some ⟨X0,0,none⟩) 3 3]) h2 hB
   rcases List.mem_cons.1 hr with rfl | hr
   · exact ⟨rfl,.inr ⟨X0,3,_,rfl,h1,hX,Nat.le_refl _,by decide,rfl,rfl⟩⟩
   · rw [List.mem_singleton.1 hr]
     exact own_lone (C:=[C]) h3 hN
 · refine List.pairwise_cons.2 ⟨fun r hr g g1 g2 => ?_,List.pairwise_cons.2 ⟨fun r hr g g1 g2 => ?_,by simp⟩⟩
   · cases g1
     rcases List.mem_cons.1 hr with rfl | hr
     · cases g2
       exact n1 rfl
     · rw [List.mem_singleton.1 hr] at g2
       cases g2
       exact n3 rfl
   · cases g1
     rw [List.mem_singleton.1 hr] at g2
     cases g2
     exact n2 rfl
set_option maxHeartbeats 8000000 in
theorem armor_in (nm b:ByteArray) (hn:nm.size <= 1000) (hb:b.size <= 65552) (hb0:b.data.toList ≠ []) (R:ByteArray) (hR:R = bs (armorL nm.data.toList b.data.toList)) (c1:Mak 18 #[.string nm] (.bool true)) (w:World) :
   CallsIn Fence.wide 9 Tryd.prog 8 #[.string nm,.string b] w fun e w' => e = .returned (.tuple #[.string R,.int .i64 0]) /\ Below w.heap.size w w':=by
 obtain ⟨t,ht⟩:∃ t,t = bs (baseL b.data.toList):=⟨_,rfl⟩
 have c2:=base_mk b (by omega)
 rw [<- ht] at c2
 have htl:t.data.toList = baseL b.data.toList:=by rw [ht,list_bs]
 have htz:t.size <= 200000:=by
   have h1:t.size = (baseL b.data.toList).length:=by rw [<- htl]; rfl
   have h2:=base_len b.data.toList
   have h3:b.data.toList.length = b.size:=rfl
   omega
 obtain ⟨T,hT⟩:=ap_list t (by omega)
 have e0:(b.toList == ([]:List UInt8)) = false:=by rw [toList_d]; exact beq_eq_false_iff_ne.2 hb0
 have t1:decide ((65552:Int) < (b.size:Int)) = false:=decide_eq_false (by omega)
 have t2:¬ (65552:Int) < (b.size:Int):=by omega
 have HT:=lH hT
 have HR:=lH hR
 have HTL:=lH htl
 have HTZ:=lH htz
 clear hT hR htl htz ht hb0
 refine callsIn_of_wp_marks Tryd.func8 rfl trivial ?_ rfl
 simp only [Tryd.ntmps8,List.size_toArray,List.length_cons,List.length_nil,Nat.reduceAdd,Nat.reduceSub,Array.replicate_succ,Array.replicate_zero,List.push_toArray,List.append_toArray,List.nil_append,List.cons_append]
 gi_wp2_with (refine ⟨trivial, ?_⟩; gi_at_call 18; refine (callsIn_wide.2 (c1 _)).mono ?_; rintro e w1 ⟨rfl,h1⟩)
 have hWA:Hid (Below w.heap.size w ((w1.alloc (.cells #[.string ⟨#[45,45,45,45,45,66,69,71,73,78,32]⟩,.string nm,.string ⟨#[45,45,45,45,45,10]⟩] 9)).alloc (.cells #[.slice (some ⟨w1.heap.size,0,none⟩) 3 3] 40))):=lH ((h1.alloc h1.size _).alloc (by have:=h1.size; simp; omega) _)
 have hXA:Hid (((w1.alloc (.cells #[.string ⟨#[45,45,45,45,45,66,69,71,73,78,32]⟩,.string nm,.string ⟨#[45,45,45,45,45,10]⟩] 9)).alloc (.cells #[.slice (some ⟨w1.heap.size,0,none⟩) 3 3] 40)).heap[w1.heap.size]? = some (.cells #[.string ⟨#[45,45,45,45,45,66,69,71,73,78,32]⟩,.string nm,.string ⟨#[45,45,45,45,45,10]⟩] 9 (0,0))):=lH ((heap_alloc_old _ _ (by simp)).trans (heap_alloc_new w1 _))
 have hBA:Hid (((w1.alloc (.cells #[.string ⟨#[45,45,45,45,45,66,69,71,73,78,32]⟩,.string nm,.string ⟨#[45,45,45,45,45,10]⟩] 9)).alloc (.cells #[.slice (some ⟨w1.heap.size,0,none⟩) 3 3] 40)).heap[w1.heap.size + 1]? = some (.cells #[.slice (some ⟨w1.heap.size,0,none⟩) 3 3] 40 (0,0))):=lH (by
   have h9:=heap_alloc_new (w1.alloc (.cells #[.string ⟨#[45,45,45,45,45,66,69,71,73,78,32]⟩,.string nm,.string ⟨#[45,45,45,45,45,10]⟩] 9)) (.cells #[.slice (some ⟨w1.heap.size,0,none⟩) 3 3] 40)
   rwa [show (w1.alloc (.cells #[.string ⟨#[45,45,45,45,45,66,69,71,73,78,32]⟩,.string nm,.string ⟨#[45,45,45,45,45,10]⟩] 9)).heap.size = w1.heap.size + 1 by simp] at h9)
 have HW1:=lH h1.size
 clear h1
 refine ⟨trivial,(callsIn_wide.2 (c2 _)).mono ?_⟩
 rintro e w2 ⟨rfl,h2⟩
 have hXA2:w2.heap[w1.heap.size]? = _:=(h2.block _ (Array.getElem?_eq_some_iff.1 hXA.out).1).trans hXA.out
 have hBA2:w2.heap[w1.heap.size + 1]? = _:=(h2.block _ (Array.getElem?_eq_some_iff.1 hBA.out).1).trans hBA.out
 have hB2:Below w.heap.size w w2:=hWA.out.trans (h2.mono hWA.out.size)
 have hlt2:w1.heap.size + 1 < w2.heap.size:=(Array.getElem?_eq_some_iff.1 hBA2).1
 obtain ⟨B0,hB0⟩:∃ B,B = w1.heap.size + 1:=⟨_,rfl⟩
 obtain ⟨Bn,hBn⟩:∃ B,B = w2.heap.size:=⟨_,rfl⟩
 have HAS:Hid (AS w.heap.size B0 Bn (.string t) (w2.alloc (.cells #[.string t] 9)) (.slice (some ⟨w1.heap.size,0,none⟩) 3 3) (tsL nm [])):=lH (as_mk ((heap_alloc_old _ _ (by omega)).trans hXA2) (by rw [hB0]; exact (heap_alloc_old _ _ hlt2).trans hBA2) (by rw [hBn]; exact heap_alloc_new w2 _) HW1.out (by have:=HW1.out; omega) (by have:=HW1.out; omega) (by omega) (by omega) (by omega))
 have HBW:Hid (Below w.heap.size w (w2.alloc (.cells #[.string t] 9))):=lH (hB2.alloc hB2.size _)
 have HBn:Hid (Bn < (w2.alloc (.cells #[.string t] 9)).heap.size /\ B0 ≠ Bn /\ w.heap.size <= B0 /\ w.heap.size <= Bn):=lH ⟨by rw [hBn]; simp,by omega,by have:=HW1.out; omega,by have:=hB2.size; omega⟩
 rw [<- hB0]
 clear hWA hXA hBA hXA2 hBA2 hB2 hlt2 hB0 HW1 h2
 gi_wp2_with (refine ⟨trivial, ?_⟩; gi_at_call 19; refine (callsIn_wide.2 (lines_ret t _)).mono ?_; rintro e w' ⟨rfl,rfl⟩)
 obtain ⟨W0,hW0⟩:∃ W0,W0 = w2.alloc (.cells #[.string t] 9):=⟨_,rfl⟩
 rw [<- hW0] at HAS HBW HBn ⊢
 rw [<- hBn]
 clear hW0 hBn
 obtain ⟨hn1,hn2,hn3,hn4⟩:=HBn.out
 have hTn:T.length <= 1000000:=by
   have h1:=congrArg List.length HT.out
   rw [List.length_map] at h1
   have h2:=lines_len t.data.toList.length t.data.toList
   have h3:t.data.toList.length = t.size:=rfl
   have h4:=HTZ.out
   have h5:(linesL t.data.toList).length <= t.data.toList.length:=h2
   omega
 obtain ⟨i0,hi,hz0,hz1,hz2⟩:=info_parts elemS.hi
 refine range_box (n:=9) (Bn:=Bn) (gf:=38) (lb:=#[.pointer (some ⟨Bn,0,none⟩)]) rfl (enters_of Tryd.func38 (by kernel_rfl) rfl) hn1
   (encs:=fun x:AP => #[.string x.1]) (fun _ => rfl) (Kp:=fun W W' => W'.heap[Bn]? = W.heap[Bn]?) (S:=fun ys => ys = T) (Sp:=fun pre => pre <+: T) (N:=T.length)
   ?kt ?kb ?seq
   (fun pre W => (∃ V C,AS w.heap.size B0 Bn C W V (tsL nm pre)) /\ Below w.heap.size w W)
   (fun _ _ _ => False)
   ⟨OwnFrom.and (Own.from (fun s A B row ⟨V,C,h⟩ hg hr => ⟨V,C,h.turn hg hr⟩) _) (ownFrom_below (Nat.le_refl _) (by have:=HBW.out.size; omega)),fun s X v ⟨⟨V,C,h⟩,hb⟩ => ⟨⟨V,v,h.setC v⟩,hb.setCell (p:=⟨Bn,0,none⟩) hn4 _⟩⟩
   (fun cd => fun _ _ _ _ hs _ _ => hs.elim)
   ⟨⟨_,_,HAS.out⟩,HBW.out⟩
   (fun x => { tmps:=#[.string nm,.string b,undef,undef,.string ⟨#[]⟩,.int .i64 0,.pointer (some ⟨B0,0,none⟩),.string x.1,.bool false,.string nm,.bool true,.bool false,.bool false,.string b,.bool false,.bool false,.string b,.int .i64 (b.size:Int),.bool false,.string nm,.slice (some ⟨w1.heap.size,0,none⟩) 3 3,.string b,.string t,.func (.func 38) #[] #[.pointer (some ⟨Bn,0,none⟩)],.string x.1,undef,undef,undef,undef,undef,undef,undef,undef,undef,undef],defers:=[] }) ?assign ?body ?done ?stop
 case kt => exact fun h k => k.trans h
 case kb => exact fun W l o hl => World.putObj_heap_other (by omega)
 case seq =>
   exact fun l J Jx W hW hJ hY h0 => lines_in 8 (by decide) l _ T t (by have:=HTZ.out; omega) HT.out J Jx hJ hY W ((hW.block _ hn1).trans HAS.out.it) h0
 case assign =>
   intro l x W K hK
   gi_wp2
   exact hK
 case body =>
   rintro l pre ⟨x,hx⟩ W ⟨⟨V,C,hA⟩,hB⟩ hlt
   dsimp only
   obtain ⟨A,cap,hV⟩:=RwL.own_any hA.row
   subst hV
   have hlen:=ts_len nm pre
   have HA:=lH hA
   have HB:=lH hB
   have HLE:=lH hlen
   have hAr:=hA.row
   have hbs:w.heap.size <= W.heap.size:=hB.size
   obtain ⟨nl,hnl⟩:∃ nl,nl = (tsL nm pre).length:=⟨_,rfl⟩
   have HNL:=lH hnl
   have hnb:nl <= 10000000:=by omega
   rw [<- hnl] at hAr
   obtain ⟨g0,g1⟩:=hA.cell
   rw [<- hnl] at g0
   clear hA hB hlen hnl
   gi_wp2_with (gi_at_builtin; refine wpListIn_append_own_at _ rfl _ _ 40 rfl w.heap.size 9 i0 (.string ⟨#[]⟩) 1 16 Tryd.underlying40 hi hz0 hz1 hz2 rfl (by decide) _ _ _ rfl (hAr.alloc _) ⟨W.heap.size,0,none⟩ 2 2 ([x,⟨#[10]⟩].map Value.string) rfl rfl (lit_cells _ _ [x,⟨#[10]⟩] _ rfl) (strs_one _) (by unfold maxLen; omega) (by omega) (by simp; omega) ?_)
   intro V2 w3 hown2 hgrow2 _ hw2
   rw [own_n A nl (tsL nm pre).length cap] at hgrow2 hw2
   have hown3:w3.ownsRow w.heap.size 9 1 V2 ((tsL nm pre).length + [x,⟨#[10]⟩].length) ((tsL nm pre).map Value.string ++ [x,⟨#[10]⟩].map Value.string):=by rw [<- HNL.out]; exact hown2
   obtain ⟨A2,d2,hV2⟩:=RwL.own_any hown2
   subst hV2
   obtain ⟨⟨k0,k1⟩,s1,s2,s3⟩:=AS.app HA.out hbs hn3 (ms:=[x,⟨#[10]⟩]) hown3 hgrow2 (hw2.imp (fun h => h) (fun h => by simpa using h))
   have S1:=lH s1
   have S2:=lH s2
   have S3:=lH s3
   clear s1 s2 s3 hown2 hown3 hgrow2 hw2 g0 g1 hAr
   gi_wp2
   exact ⟨S2.out.from _,S1.out.it.trans HA.out.it.symm,⟨_,_,by rw [ts_snoc]; exact S1.out⟩,HB.out.trans S3.out⟩
 case done =>
   rintro D ys W hD rfl ⟨⟨V,C,hA⟩,hB⟩ hK
   obtain ⟨A,cap,hV⟩:=RwL.own_any hA.row
   subst hV
   have hlen:=ts_len nm ys
   have HA:=lH hA
   have HB:=lH hB
   have HK:=lH hK
   have hAr:=hA.row
   have hbs:w.heap.size <= W.heap.size:=hB.size
   obtain ⟨nl,hnl⟩:∃ nl,nl = (tsL nm ys).length:=⟨_,rfl⟩
   have HNL:=lH hnl
   have hnb:nl <= 10000000:=by omega
   have HLE:=lH hlen
   rw [<- hnl] at hAr
   obtain ⟨g0,g1⟩:=hA.cell
   rw [<- hnl] at g0
   clear hA hB hlen hnl hK
   gi_wp2_with (gi_at_builtin; refine wpListIn_append_own_at _ rfl _ _ 40 rfl w.heap.size 9 i0 (.string ⟨#[]⟩) 1 16 Tryd.underlying40 hi hz0 hz1 hz2 rfl (by decide) _ _ _ rfl (hAr.alloc _) ⟨W.heap.size,0,none⟩ 3 3 ([endB,nm,dshB].map Value.string) rfl rfl (lit_cells _ _ [endB,nm,dshB] _ rfl) (strs_one _) (by unfold maxLen; omega) (by omega) (by simp; omega) ?_)
   intro V2 w3 hown2 hgrow2 _ hw2
   rw [own_n A nl (tsL nm ys).length cap] at hgrow2 hw2
   have hown3:w3.ownsRow w.heap.size 9 1 V2 ((tsL nm ys).length + [endB,nm,dshB].length) ((tsL nm ys).map Value.string ++ [endB,nm,dshB].map Value.string):=by rw [<- HNL.out]; exact hown2
   obtain ⟨⟨k0,k1⟩,s1,s2,s3⟩:=AS.app HA.out hbs hn3 (ms:=[endB,nm,dshB]) hown3 hgrow2 (hw2.imp (fun h => h) (fun h => by simpa using h))
   obtain ⟨g9,d9,hV9,hc9,hl9⟩:=own_addr hown3 (by rw [ts_len]; omega)
   subst hV9
   obtain ⟨xs,hxs⟩:∃ xs,xs = tsL nm ys ++ [endB,nm,dshB]:=⟨_,rfl⟩
   have hxl:(tsL nm ys).length + [endB,nm,dshB].length = xs.length:=by rw [hxs,List.length_append]
   rw [hxl] at hc9 s1 s2 s3 ⊢
   rw [<- hxs] at s1
   have hjl:Lib.join (xs.map (·.data.toList)) (⟨#[]⟩:ByteArray).data.toList = armorL nm.data.toList b.data.toList:=by
     rw [show Lib.join (xs.map (·.data.toList)) (⟨#[]⟩:ByteArray).data.toList = (xs.map (·.data.toList)).flatten from inter_nil _,hxs]
     exact ts_flat nm b ys (by rw [HT.out,HTL.out])
   have hcs:∀ (j:Nat) y,xs[j]? = some y -> (w3.setCell ⟨B0,0,none⟩ (.slice (some ⟨g9,0,none⟩) xs.length d9)).cell? ⟨g9,0 + j,none⟩ = some (.string y):=fun j y hy => by
     rw [Nat.zero_add]
     exact own_cell s1.row j (.string y) (by rw [List.getElem?_map,hy]; rfl)
   have hgl:g9 < (w3.setCell ⟨B0,0,none⟩ (.slice (some ⟨g9,0,none⟩) xs.length d9)).heap.size:=by simpa using hl9
   have hxn:xs.length <= 20000000:=by rw [<- hxl]; show _ + 3 <= _; have:=HNL.out; omega
   have hal:=armor_len nm.data.toList b.data.toList (by show nm.size <= 100000; omega) (by show b.size <= 100000; omega)
   have cj:=Tryd.strings_Join g9 0 d9 xs ⟨#[]⟩ (w3.setCell ⟨B0,0,none⟩ (.slice (some ⟨g9,0,none⟩) xs.length d9)) hcs hgl (by omega) hc9 (by rw [hjl]; omega)
   rw [hjl,show (⟨(armorL nm.data.toList b.data.toList).toArray⟩:ByteArray) = R from HR.out.symm] at cj
   have CJ:=lH cj
   have hkd:(w3.setCell ⟨B0,0,none⟩ (.slice (some ⟨g9,0,none⟩) xs.length d9)).heap[D]? = some (.deferred (some [])):=s2.same D _ HK.out rfl
   have HKD:=lH hkd
   have HB3:=lH (HB.out.trans s3)
   have q0:=s1.cell.1
   have q1:=s1.cell.2
   clear s1 s2 s3 hown2 hown3 hgrow2 hw2 g0 g1 hAr hcs hgl hal hjl cj hkd hxl hxs hl9 hc9
   gi_wp2_with (refine ⟨trivial, ?_⟩; gi_at_call 20; refine (callsIn_wide.2 CJ.out).mono ?_; rintro e w9 ⟨rfl,h9⟩)
   have hk4:w9.heap[D]? = some (.deferred (some [])):=(h9.block D (Array.getElem?_eq_some_iff.1 HKD.out).1).trans HKD.out
   have hBB:=(HB3.out.trans (h9.mono HB3.out.size)).trans (belowK_b (w:=w) (Nat.le_refl _) _ D _ (.deferred none) (by have:=HBW.out.size; omega) hk4 rfl rfl)
   refine ⟨by simp,.inl ⟨_,_,rfl,run_takeDeferred hk4, ?_⟩⟩
   obtain ⟨GG,hGG⟩:∃ G,G = w9.putObj D (.deferred none):=⟨_,rfl⟩
   rw [<- hGG] at hBB ⊢
   refine ⟨.tuple #[.string R,.int .i64 0], ?_,rfl,hBB⟩
   simp [results,Tryd.results8,go_sem]
 case stop =>
   rintro D cd pre W hD hpre hF hK
   exact hF.elim
set_option maxHeartbeats 4000000 in
theorem arm_1 (nm b:ByteArray)  (c1:Mak 18 #[.string nm] (.bool false)) (w:World) :
   CallsIn Fence.wide 9 Tryd.prog 8 #[.string nm,.string b] w fun e w' => e = .returned (.tuple #[.string ⟨#[]⟩,.int .i64 1]) /\ Below w.heap.size w w':=by
 refine callsIn_of_wp_marks Tryd.func8 rfl trivial ?_ rfl
 simp only [Tryd.ntmps8,List.size_toArray,List.length_cons,List.length_nil,Nat.reduceAdd,Nat.reduceSub,Array.replicate_succ,Array.replicate_zero,List.push_toArray,List.append_toArray,List.nil_append,List.cons_append]
 gi_wp2_with (refine ⟨trivial, ?_⟩; gi_at_call 18; refine (callsIn_wide.2 (c1 _)).mono ?_; rintro e w1 ⟨rfl,h1⟩)
 skip
 refine ⟨.tuple #[.string ⟨#[]⟩,.int .i64 1], ?_,rfl,h1⟩
 simp [results,Tryd.results8,go_sem]
set_option maxHeartbeats 4000000 in
theorem arm_3 (nm b:ByteArray) (e0:(b.toList == ([]:List UInt8)) = true) (c1:Mak 18 #[.string nm] (.bool true)) (w:World) :
   CallsIn Fence.wide 9 Tryd.prog 8 #[.string nm,.string b] w fun e w' => e = .returned (.tuple #[.string ⟨#[]⟩,.int .i64 3]) /\ Below w.heap.size w w':=by
 refine callsIn_of_wp_marks Tryd.func8 rfl trivial ?_ rfl
 simp only [Tryd.ntmps8,List.size_toArray,List.length_cons,List.length_nil,Nat.reduceAdd,Nat.reduceSub,Array.replicate_succ,Array.replicate_zero,List.push_toArray,List.append_toArray,List.nil_append,List.cons_append]
 gi_wp2_with (refine ⟨trivial, ?_⟩; gi_at_call 18; refine (callsIn_wide.2 (c1 _)).mono ?_; rintro e w1 ⟨rfl,h1⟩)
 skip
 refine ⟨.tuple #[.string ⟨#[]⟩,.int .i64 3], ?_,rfl,h1⟩
 simp [results,Tryd.results8,go_sem]
set_option maxHeartbeats 4000000 in
theorem arm_4 (nm b:ByteArray) (e0:(b.toList == ([]:List UInt8)) = false) (_t1:decide ((65552:Int) < (b.size:Int)) = true) (t2:(65552:Int) < (b.size:Int)) (c1:Mak 18 #[.string nm] (.bool true)) (w:World) :
   CallsIn Fence.wide 9 Tryd.prog 8 #[.string nm,.string b] w fun e w' => e = .returned (.tuple #[.string ⟨#[]⟩,.int .i64 4]) /\ Below w.heap.size w w':=by
 refine callsIn_of_wp_marks Tryd.func8 rfl trivial ?_ rfl
 simp only [Tryd.ntmps8,List.size_toArray,List.length_cons,List.length_nil,Nat.reduceAdd,Nat.reduceSub,Array.replicate_succ,Array.replicate_zero,List.push_toArray,List.append_toArray,List.nil_append,List.cons_append]
 gi_wp2_with (refine ⟨trivial, ?_⟩; gi_at_call 18; refine (callsIn_wide.2 (c1 _)).mono ?_; rintro e w1 ⟨rfl,h1⟩)
 skip
 refine ⟨.tuple #[.string ⟨#[]⟩,.int .i64 4], ?_,rfl,h1⟩
 simp [results,Tryd.results8,go_sem]
theorem armor_mk (nm b:ByteArray) (hn:nm.size <= 100000):Mak 8 #[.string nm,.string b] (.tuple #[.string (bs (armV nm.data.toList b.data.toList).1),.int .i64 (armV nm.data.toList b.data.toList).2]):=by
 intro w
 have c1:=named_mk nm (by omega)
 refine (callsIn_wide (n:=9)).1 ?_
 unfold armV
 cases hq:nameOk nm.data.toList
 · rw [hq] at c1
   exact arm_1 nm b c1 w
 rw [hq] at c1
 have hbz:(b.size:Int) = (b.data.toList.length:Int):=rfl
 by_cases h0:b.data.toList = []
 · rw [if_neg (by simp),if_pos h0]
   exact arm_3 nm b (by rw [toList_d,h0]; rfl) c1 w
 by_cases h1:65552 < b.data.toList.length
 · rw [if_neg (by simp),if_neg h0,if_pos h1]
   exact arm_4 nm b (by rw [toList_d]; exact beq_eq_false_iff_ne.2 h0) (decide_eq_true (by omega)) (by omega) c1 w
 · rw [if_neg (by simp),if_neg h0,if_neg h1]
   have hn2:nm.data.toList.length <= 40:=by
     unfold nameOk at hq
     simp only [Bool.and_eq_true,decide_eq_true_eq] at hq
     exact hq.2.1
   exact armor_in nm b (by have h3:nm.size = nm.data.toList.length:=rfl; omega) (by have h2:b.size = b.data.toList.length:=rfl; omega) h0 _ rfl c1 w
end Pm
end Go.Proofs.YtagmgldibjjeeaaDoor
namespace Go.Proofs.YtagmgldibjjeeaaDoor
open Go.RowKit
namespace Pm
theorem lib_cut (p:List UInt8) (hp:p ≠ []):∀ l:List UInt8,Lib.cut l p = match cutP p l with
   | none => (l,[],false)
   | some (a,b) => (a,b,true)
 | [] => by
   have h1:p.isPrefixOf [] = false:=by
     cases p with
     | nil => exact absurd rfl hp
     | cons a p => rfl
   have h2:Lib.index [] p = -1:=by
     unfold Lib.index
     cases p with
     | nil => exact absurd rfl hp
     | cons a p => rfl
   unfold Lib.cut cutP
   rw [h1,h2]
   rfl
 | c :: l => by
   have ih:=lib_cut p hp l
   unfold Lib.cut at ih ⊢
   by_cases h:p.isPrefixOf (c :: l) = true
   · have h2:Lib.index (c :: l) p = 0:=by
       unfold Lib.index
       rw [if_pos h]
     rw [h2,cutP,if_pos h]
     show ((c :: l).take 0,(c :: l).drop (0 + p.length),true) = _
     rw [Nat.zero_add]
     rfl
   · have hge:=Lib.index_ge l p
     by_cases hm:Lib.index l p = -1
     · have h2:Lib.index (c :: l) p = -1:=by
         unfold Lib.index
         rw [if_neg h,hm]
         rfl
       rw [hm] at ih
       rw [h2,cutP,if_neg h]
       cases hc:cutP p l with
       | none => rfl
       | some x =>
         rw [hc] at ih
         exact absurd (show false = true from congrArg (fun x => x.2.2) ih) (by decide)
     · have h2:Lib.index (c :: l) p = Lib.index l p + 1:=by
         conv => lhs; unfold Lib.index
         rw [if_neg h,if_neg (by simpa using hm)]
       have h0:0 <= Lib.index l p:=by omega
       rw [if_pos h0] at ih
       rw [h2,cutP,if_neg h,if_pos (by omega)]
       cases hc:cutP p l with
       | none =>
         rw [hc] at ih
         exact absurd (show true = false from congrArg (fun x => x.2.2) ih) (by decide)
       | some x =>
         obtain ⟨a,b⟩:=x
         rw [hc] at ih
         have e1:l.take (Lib.index l p).toNat = a:=congrArg (fun x => x.1) ih
         have e2:l.drop ((Lib.index l p).toNat + p.length) = b:=congrArg (fun x => x.2.1) ih
         have e3:(Lib.index l p + 1).toNat = (Lib.index l p).toNat + 1:=by omega
         rw [e3,List.take_succ_cons,show (Lib.index l p).toNat + 1 + p.length = ((Lib.index l p).toNat + p.length) + 1 by omega,List.drop_succ_cons,e1,e2]
theorem rep_k:∀ (n:Nat) (s:List UInt8),s.length <= n -> Lib.replaceK [10] [] (Lib.count s [10]) s = s.filter (· ≠ 10):=by
 intro n
 induction n with
 | zero =>
   intro s h
   rw [List.length_eq_zero_iff.1 (Nat.le_zero.1 h)]
   rfl
 | succ n ih =>
   intro s h
   have e:=Lib.index_one s 10
   have hge:=Lib.index_ge s [10]
   by_cases hm:Lib.index s [10] = -1
   · rw [Lib.count_miss hm,Lib.replaceK]
     rw [hm] at e
     have h1:=Lib.indexByte_none e.symm
     refine (List.filter_eq_self.2 fun x hx => ?_).symm
     obtain ⟨k,hk⟩:=List.mem_iff_getElem?.1 hx
     have h2:=h1 k
     rw [hk] at h2
     exact decide_eq_true (fun h3 => h2 (by rw [h3]))
   · obtain ⟨i,hi⟩:∃ i:Nat,Lib.index s [10] = i:=⟨(Lib.index s [10]).toNat,by omega⟩
     rw [hi] at e
     obtain ⟨h1,h2⟩:=Lib.indexByte_some e.symm
     have hl:i < s.length:=(List.getElem?_eq_some_iff.1 h1).1
     have h3:=ih (s.drop (i + 1)) (by rw [List.length_drop]; omega)
     rw [Lib.count_hit (by simp) hi,Nat.add_comm,Lib.replaceK_hit _ _ _ _ _ hi]
     show s.take i ++ [] ++ Lib.replaceK [10] [] (Lib.count (s.drop (i + 1)) [10]) (s.drop (i + 1)) = _
     rw [h3,List.append_nil]
     have h4:s = s.take i ++ ([10] ++ s.drop (i + 1)):=by
       rw [<- List.append_assoc,<- (show s.take (i + 1) = s.take i ++ [10] by rw [List.take_add_one,h1]; rfl),List.take_append_drop]
     have h5:(s.take i).filter (· ≠ 10) = s.take i:=List.filter_eq_self.2 fun x hx => by
       obtain ⟨k,hk⟩:=List.mem_iff_getElem?.1 hx
       have hk2:k < i:=by
         have h6:=(List.getElem?_eq_some_iff.1 hk).1
         rw [List.length_take] at h6
         omega
       rw [List.getElem?_take,if_pos hk2] at hk
       have h7:=h2 k hk2
       rw [hk] at h7
       exact decide_eq_true (fun h8 => h7 (by rw [h8]))
     conv => rhs; rw [h4,List.filter_append,List.filter_append,h5]
     rfl
theorem rep_all (s:List UInt8):Lib.replaceAll s [10] [] = s.filter (· ≠ 10):=by
 unfold Lib.replaceAll Lib.replace
 rw [if_neg (by decide)]
 unfold Lib.replaceNum
 rw [if_pos (by omega)]
 exact rep_k _ s (Nat.le_refl _)
def preV (p t:List UInt8):List UInt8:=if p.isPrefixOf t = true then t.drop p.length else t
def sufV (p t:List UInt8):List UInt8:=if p.isSuffixOf t = true then t.take (t.length - p.length) else t
theorem ba_of {a:ByteArray} {l:List UInt8} (h:a.data.toList = l):a = bs l:=ba_ext (by rw [h,list_bs])
theorem ex_take (s:ByteArray) (k:Nat):(s.extract 0 k).data.toList = s.data.toList.take k:=Lib.extract_from_zero s k
theorem ex_drop (s:ByteArray) (k:Nat):(s.extract k s.size).data.toList = s.data.toList.drop k:=by
 rw [ByteArray.data_extract]
 simp only [Array.toList_extract,List.extract_eq_take_drop]
 refine List.take_of_length_le ?_
 rw [List.length_drop]
 exact Nat.le_refl _
theorem pre_iff (p t:List UInt8) (h:p.length <= t.length):p.isPrefixOf t = true ↔ t.take p.length = p:=by
 rw [List.isPrefixOf_iff_prefix]
 constructor
 · rintro ⟨r,rfl⟩
   simp
 · intro h1
   exact ⟨t.drop p.length, by conv => lhs; lhs; rw [<- h1]
                              exact List.take_append_drop _ _⟩
theorem suf_iff (p t:List UInt8) (h:p.length <= t.length):p.isSuffixOf t = true ↔ t.drop (t.length - p.length) = p:=by
 rw [List.isSuffixOf_iff_suffix]
 constructor
 · rintro ⟨r,rfl⟩
   rw [List.length_append,Nat.add_sub_cancel]
   simp
 · intro h1
   exact ⟨t.take (t.length - p.length), by conv => lhs; rhs; rw [<- h1]
                                           exact List.take_append_drop _ _⟩
theorem hpre_ret (s p:ByteArray) (_hm:s.size <= 1000000) (_hp:p.size <= 1000000):Ret 56 #[.string s,.string p] (.bool (p.data.toList.isPrefixOf s.data.toList)):=by
 intro w
 by_cases h0:p.size <= s.size
 · have t1:decide ((p.size:Int) <= (s.size:Int)) = true:=decide_eq_true (by omega)
   have t2:(p.size:Int) <= (s.size:Int):=by omega
   obtain ⟨b,hb⟩:∃ b,b = p.data.toList.isPrefixOf s.data.toList:=⟨_,rfl⟩
   have hq:((s.extract 0 p.size).toList == p.toList) = b:=by
     rw [hb,toList_d,toList_d,ex_take]
     have h1:=pre_iff p.data.toList s.data.toList h0
     cases h2:p.data.toList.isPrefixOf s.data.toList
     · exact beq_eq_false_iff_ne.2 fun h3 => by rw [h1.2 h3] at h2; cases h2
     · exact beq_iff_eq.2 (h1.1 h2)
   rw [<- hb]
   clear hb
   go_enter Tryd.func56,Tryd.ntmps56
   go_wp2_with fail
   go_ret
   exact ⟨rfl,rfl⟩
 · have t1:decide ((p.size:Int) <= (s.size:Int)) = false:=decide_eq_false (by omega)
   have t2:¬ (p.size:Int) <= (s.size:Int):=by omega
   have e:p.data.toList.isPrefixOf s.data.toList = false:=by
     cases h2:p.data.toList.isPrefixOf s.data.toList
     · rfl
     · exact absurd (List.isPrefixOf_iff_prefix.1 h2).length_le h0
   rw [e]
   clear e
   go_enter Tryd.func56,Tryd.ntmps56
   go_wp2_with fail
   go_ret
   exact ⟨rfl,rfl⟩
theorem pre_ret (s p:ByteArray) (hm:s.size <= 1000000) (hp:p.size <= 1000000):Ret 23 #[.string s,.string p] (.tuple #[.string (bs (preV p.data.toList s.data.toList)),.bool (p.data.toList.isPrefixOf s.data.toList)]):=by
 intro w
 have c0:=hpre_ret s p hm hp
 have c1:Ret 42 #[.string s,.string p] (.tuple #[.string (bs (preV p.data.toList s.data.toList)),.bool (p.data.toList.isPrefixOf s.data.toList)]):=by
   intro w
   unfold preV
   cases h:p.data.toList.isPrefixOf s.data.toList
   · rw [if_neg (by simp),<- ba_of (a:=s) rfl]
     rw [h] at c0
     clear h
     go_enter Tryd.func42,Tryd.ntmps42
     go_wp2_with fail
     refine (c0).calls ?_
     go_wp2_with fail
     go_ret2
     exact ⟨rfl,rfl⟩
   · rw [if_pos rfl,<- ba_of (ex_drop s p.data.toList.length)]
     have t2:(p.size:Int) <= (s.size:Int):=by
       have h1:p.size <= s.size:=(List.isPrefixOf_iff_prefix.1 h).length_le
       omega
     rw [h] at c0
     clear h
     go_enter Tryd.func42,Tryd.ntmps42
     go_wp2_with fail
     refine (c0).calls ?_
     go_wp2_with fail
     go_ret2
     exact ⟨rfl,rfl⟩
 clear c0
 obtain ⟨B,hB⟩:∃ B,B = p.data.toList.isPrefixOf s.data.toList:=⟨_,rfl⟩
 rw [<- hB] at c1 ⊢
 clear hB
 go_enter Tryd.func23,Tryd.ntmps23
 go_wp2_with fail
 refine (c1).calls ?_
 go_wp2_with fail
 go_ret2
 exact ⟨rfl,rfl⟩
theorem hsuf_ret (s p:ByteArray) (hm:s.size <= 1000000) (hp:p.size <= 1000000):Ret 58 #[.string s,.string p] (.bool (p.data.toList.isSuffixOf s.data.toList)):=by
 intro w
 by_cases h0:p.size <= s.size
 · have t1:decide ((p.size:Int) <= (s.size:Int)) = true:=decide_eq_true (by omega)
   have t2:(p.size:Int) <= (s.size:Int):=by omega
   have t3:IntKind.i64.wrap ((s.size:Int) - (p.size:Int)) = ((s.size - p.size:Nat):Int):=by rw [IntWalk.i64_in _ (by omega)]; omega
   obtain ⟨b,hb⟩:∃ b,b = p.data.toList.isSuffixOf s.data.toList:=⟨_,rfl⟩
   have hq:((s.extract (s.size - p.size) s.size).toList == p.toList) = b:=by
     rw [hb,toList_d,toList_d,ex_drop]
     have h1:=suf_iff p.data.toList s.data.toList h0
     cases h2:p.data.toList.isSuffixOf s.data.toList
     · exact beq_eq_false_iff_ne.2 fun h3 => by rw [h1.2 h3] at h2; cases h2
     · exact beq_iff_eq.2 (h1.1 h2)
   have i1:(0:Int) <= ((s.size - p.size:Nat):Int):=by omega
   have i2:((s.size - p.size:Nat):Int) <= (s.size:Int):=by omega
   obtain ⟨k,hk⟩:∃ k,k = s.size - p.size:=⟨_,rfl⟩
   rw [<- hk] at t3 hq i1 i2
   rw [<- hb]
   clear hb hk
   go_enter Tryd.func58,Tryd.ntmps58
   go_wp2_with fail
   go_ret
   exact ⟨rfl,rfl⟩
 · have t1:decide ((p.size:Int) <= (s.size:Int)) = false:=decide_eq_false (by omega)
   have t2:¬ (p.size:Int) <= (s.size:Int):=by omega
   have e:p.data.toList.isSuffixOf s.data.toList = false:=by
     cases h2:p.data.toList.isSuffixOf s.data.toList
     · rfl
     · exact absurd (List.isSuffixOf_iff_suffix.1 h2).length_le h0
   rw [e]
   clear e
   go_enter Tryd.func58,Tryd.ntmps58
   go_wp2_with fail
   go_ret
   exact ⟨rfl,rfl⟩
theorem suf_ret (s p:ByteArray) (hm:s.size <= 1000000) (hp:p.size <= 1000000):Ret 25 #[.string s,.string p] (.tuple #[.string (bs (sufV p.data.toList s.data.toList)),.bool (p.data.toList.isSuffixOf s.data.toList)]):=by
 intro w
 have c0:=hsuf_ret s p hm hp
 have c1:Ret 44 #[.string s,.string p] (.tuple #[.string (bs (sufV p.data.toList s.data.toList)),.bool (p.data.toList.isSuffixOf s.data.toList)]):=by
   intro w
   unfold sufV
   cases h:p.data.toList.isSuffixOf s.data.toList
   · rw [if_neg (by simp),<- ba_of (a:=s) rfl]
     rw [h] at c0
     clear h
     go_enter Tryd.func44,Tryd.ntmps44
     go_wp2_with fail
     refine (c0).calls ?_
     go_wp2_with fail
     go_ret2
     exact ⟨rfl,rfl⟩
   · rw [if_pos rfl,<- ba_of (ex_take s (s.data.toList.length - p.data.toList.length))]
     have h1:p.size <= s.size:=(List.isSuffixOf_iff_suffix.1 h).length_le
     have t3:IntKind.i64.wrap ((s.size:Int) - (p.size:Int)) = ((s.size - p.size:Nat):Int):=by rw [IntWalk.i64_in _ (by omega)]; omega
     have i1:(0:Int) <= ((s.size - p.size:Nat):Int):=by omega
     have i2:((s.size - p.size:Nat):Int) <= (s.size:Int):=by omega
     rw [show s.data.toList.length - p.data.toList.length = s.size - p.size from rfl]
     obtain ⟨k,hk⟩:∃ k,k = s.size - p.size:=⟨_,rfl⟩
     rw [<- hk] at t3 i1 i2 ⊢
     rw [h] at c0
     clear h h1 hk
     go_enter Tryd.func44,Tryd.ntmps44
     go_wp2_with fail
     refine (c0).calls ?_
     go_wp2_with fail
     go_ret2
     exact ⟨rfl,rfl⟩
 clear c0
 obtain ⟨B,hB⟩:∃ B,B = p.data.toList.isSuffixOf s.data.toList:=⟨_,rfl⟩
 rw [<- hB] at c1 ⊢
 clear hB
 go_enter Tryd.func25,Tryd.ntmps25
 go_wp2_with fail
 refine (c1).calls ?_
 go_wp2_with fail
 go_ret2
 exact ⟨rfl,rfl⟩
end Pm
namespace Pm
def ML (w:World):Prop:=0 < w.heap.size /\ ∃ m,w.cell? ⟨0,0,none⟩ = some (.int .i64 m)
theorem ML.step {w w':World} (h:ML w) (hb:Below w.heap.size w w'):ML w' :=
 ⟨Nat.lt_of_lt_of_le h.1 hb.size,h.2.imp fun _ hm => (hb.cell (p:=⟨0,0,none⟩) h.1).trans hm⟩
instance:Kp ML:=⟨fun h hb => h.step hb⟩
theorem dash_ne:dshL ≠ []:=by decide
theorem cut_k (s:ByteArray) (hm:s.size <= 1000000) (a b:ByteArray) (q:Bool) (h:Lib.cut s.data.toList dshL = (a.data.toList,b.data.toList,q)):KMk ML 24 #[.string s,.string dshB] (.tuple #[.string a,.string b,.bool q]):=by
 intro w hT
 obtain ⟨m,hc⟩:=hT.2
 refine (Tryd.strings_Cut s dshB m w (by omega) hc).mono ?_
 rintro e w' ⟨he,n,rfl⟩
 rw [he]
 rw [show dshB.data.toList = dshL from rfl,h]
 refine ⟨?_,rfl,rfl,rfl,Nat.le_refl _,fun _ _ => rfl⟩
 rw [show (⟨a.data.toList.toArray⟩:ByteArray) = a from (ba_of rfl).symm,show (⟨b.data.toList.toArray⟩:ByteArray) = b from (ba_of rfl).symm]
theorem rep_k' (s:ByteArray) (hm:s.size <= 1000000):KMk ML 26 #[.string s,.string ⟨#[10]⟩,.string ⟨#[]⟩] (.string (bs (s.data.toList.filter (· ≠ 10)))):=by
 intro w hT
 obtain ⟨m,hc⟩:=hT.2
 refine (Tryd.strings_ReplaceAll s ⟨#[10]⟩ ⟨#[]⟩ m w (by omega) hc (by decide) (by show s.size + _ * 0 <= _; omega)).mono ?_
 rintro e w' ⟨he,hb⟩
 rw [he,show (⟨#[10]⟩:ByteArray).data.toList = [10] from rfl,show (⟨#[]⟩:ByteArray).data.toList = [] from rfl,rep_all]
 exact ⟨rfl,hb⟩
set_option maxHeartbeats 4000000 in
theorem un_1 (t r1 nm r2 bd rp B a:ByteArray) (ok:Bool) (h2:nm.size <= 100000) (b2 b3:Bool) (e:Int)
   (c1:Ret 23 #[.string t,.string begB] (.tuple #[.string r1,.bool false]))
   (c2:KMk ML 24 #[.string r1,.string dshB] (.tuple #[.string nm,.string r2,.bool b2]))
   (c3:Ret 25 #[.string r2,.string (endB ++ nm ++ dshB)] (.tuple #[.string bd,.bool b3]))
   (_c4:KMk ML 26 #[.string bd,.string ⟨#[10]⟩,.string ⟨#[]⟩] (.string rp))
   (_c5:Mak 6 #[.string rp] (.tuple #[.string B,.bool ok]))
   (_c6:Mak 8 #[.string nm,.string B] (.tuple #[.string a,.int .i64 e])) :
   KMk ML 10 #[.string t] (.tuple #[.string ⟨#[]⟩,.string ⟨#[]⟩,.int .i64 5]):=by
 intro w hT
 have HT:=lH hT
 have HS:=lH (Since.refl w)
 have k1:¬ 9223372036854775807 < endB.size + nm.size:=by show ¬ _ < 9 + nm.size; omega
 have k2:¬ 9223372036854775807 < (endB ++ nm).size + dshB.size:=by rw [ByteArray.size_append]; show ¬ _ < 9 + nm.size + 6; omega
 unfold begB at c1
 unfold dshB at c2
 unfold endB dshB at c3
 unfold endB at k1
 unfold endB dshB at k2
 clear hT h2
 go_enter Tryd.func10,Tryd.ntmps10
 go_wp2_with fail
 refine (c1).calls ?_
 go_wp2_with fail
 refine (c2.calls0 HT.out) ?_
 intro w1 h1
 replace HT:=lH (HT.out.step (Up.up h1))
 replace HS:=lH (HS.out.step (Up.up h1))
 clear h1
 go_wp2_with fail
 refine (c3).calls ?_
 go_wp2_with fail
 skip
 go_ret3
 exact ⟨rfl,HS.out⟩
set_option maxHeartbeats 4000000 in
theorem un_2 (t r1 nm r2 bd rp B a:ByteArray) (ok:Bool) (h2:nm.size <= 100000) (b3:Bool) (e:Int)
   (c1:Ret 23 #[.string t,.string begB] (.tuple #[.string r1,.bool true]))
   (c2:KMk ML 24 #[.string r1,.string dshB] (.tuple #[.string nm,.string r2,.bool false]))
   (c3:Ret 25 #[.string r2,.string (endB ++ nm ++ dshB)] (.tuple #[.string bd,.bool b3]))
   (_c4:KMk ML 26 #[.string bd,.string ⟨#[10]⟩,.string ⟨#[]⟩] (.string rp))
   (_c5:Mak 6 #[.string rp] (.tuple #[.string B,.bool ok]))
   (_c6:Mak 8 #[.string nm,.string B] (.tuple #[.string a,.int .i64 e])) :
   KMk ML 10 #[.string t] (.tuple #[.string ⟨#[]⟩,.string ⟨#[]⟩,.int .i64 5]):=by
 intro w hT
 have HT:=lH hT
 have HS:=lH (Since.refl w)
 have k1:¬ 9223372036854775807 < endB.size + nm.size:=by show ¬ _ < 9 + nm.size; omega
 have k2:¬ 9223372036854775807 < (endB ++ nm).size + dshB.size:=by rw [ByteArray.size_append]; show ¬ _ < 9 + nm.size + 6; omega
 unfold begB at c1
 unfold dshB at c2
 unfold endB dshB at c3
 unfold endB at k1
 unfold endB dshB at k2
 clear hT h2
 go_enter Tryd.func10,Tryd.ntmps10
 go_wp2_with fail
 refine (c1).calls ?_
 go_wp2_with fail
 refine (c2.calls0 HT.out) ?_
 intro w1 h1
 replace HT:=lH (HT.out.step (Up.up h1))
 replace HS:=lH (HS.out.step (Up.up h1))
 clear h1
 go_wp2_with fail
 refine (c3).calls ?_
 go_wp2_with fail
 skip
 go_ret3
 exact ⟨rfl,HS.out⟩
set_option maxHeartbeats 4000000 in
theorem un_3 (t r1 nm r2 bd rp B a:ByteArray) (ok:Bool) (h2:nm.size <= 100000) (e:Int)
   (c1:Ret 23 #[.string t,.string begB] (.tuple #[.string r1,.bool true]))
   (c2:KMk ML 24 #[.string r1,.string dshB] (.tuple #[.string nm,.string r2,.bool true]))
   (c3:Ret 25 #[.string r2,.string (endB ++ nm ++ dshB)] (.tuple #[.string bd,.bool false]))
   (_c4:KMk ML 26 #[.string bd,.string ⟨#[10]⟩,.string ⟨#[]⟩] (.string rp))
   (_c5:Mak 6 #[.string rp] (.tuple #[.string B,.bool ok]))
   (_c6:Mak 8 #[.string nm,.string B] (.tuple #[.string a,.int .i64 e])) :
   KMk ML 10 #[.string t] (.tuple #[.string ⟨#[]⟩,.string ⟨#[]⟩,.int .i64 5]):=by
 intro w hT
 have HT:=lH hT
 have HS:=lH (Since.refl w)
 have k1:¬ 9223372036854775807 < endB.size + nm.size:=by show ¬ _ < 9 + nm.size; omega
 have k2:¬ 9223372036854775807 < (endB ++ nm).size + dshB.size:=by rw [ByteArray.size_append]; show ¬ _ < 9 + nm.size + 6; omega
 unfold begB at c1
 unfold dshB at c2
 unfold endB dshB at c3
 unfold endB at k1
 unfold endB dshB at k2
 clear hT h2
 go_enter Tryd.func10,Tryd.ntmps10
 go_wp2_with fail
 refine (c1).calls ?_
 go_wp2_with fail
 refine (c2.calls0 HT.out) ?_
 intro w1 h1
 replace HT:=lH (HT.out.step (Up.up h1))
 replace HS:=lH (HS.out.step (Up.up h1))
 clear h1
 go_wp2_with fail
 refine (c3).calls ?_
 go_wp2_with fail
 skip
 go_ret3
 exact ⟨rfl,HS.out⟩
set_option maxHeartbeats 4000000 in
theorem un_4 (t r1 nm r2 bd rp B a:ByteArray) (ok:Bool) (h2:nm.size <= 100000) (e:Int) (_e0:(e == 0) = false) (e1:(e != 0) = true) (_e2:¬ e = 0)
   (c1:Ret 23 #[.string t,.string begB] (.tuple #[.string r1,.bool true]))
   (c2:KMk ML 24 #[.string r1,.string dshB] (.tuple #[.string nm,.string r2,.bool true]))
   (c3:Ret 25 #[.string r2,.string (endB ++ nm ++ dshB)] (.tuple #[.string bd,.bool true]))
   (c4:KMk ML 26 #[.string bd,.string ⟨#[10]⟩,.string ⟨#[]⟩] (.string rp))
   (c5:Mak 6 #[.string rp] (.tuple #[.string B,.bool ok]))
   (c6:Mak 8 #[.string nm,.string B] (.tuple #[.string a,.int .i64 e])) :
   KMk ML 10 #[.string t] (.tuple #[.string ⟨#[]⟩,.string ⟨#[]⟩,.int .i64 5]):=by
 intro w hT
 have HT:=lH hT
 have HS:=lH (Since.refl w)
 have k1:¬ 9223372036854775807 < endB.size + nm.size:=by show ¬ _ < 9 + nm.size; omega
 have k2:¬ 9223372036854775807 < (endB ++ nm).size + dshB.size:=by rw [ByteArray.size_append]; show ¬ _ < 9 + nm.size + 6; omega
 unfold begB at c1
 unfold dshB at c2
 unfold endB dshB at c3
 unfold endB at k1
 unfold endB dshB at k2
 clear hT h2
 go_enter Tryd.func10,Tryd.ntmps10
 go_wp2_with fail
 refine (c1).calls ?_
 go_wp2_with fail
 refine (c2.calls0 HT.out) ?_
 intro w1 h1
 replace HT:=lH (HT.out.step (Up.up h1))
 replace HS:=lH (HS.out.step (Up.up h1))
 clear h1
 go_wp2_with fail
 refine (c3).calls ?_
 go_wp2_with fail
 refine (c4.calls0 HT.out) ?_
 intro w2 h2
 replace HT:=lH (HT.out.step (Up.up h2))
 replace HS:=lH (HS.out.step (Up.up h2))
 clear h2
 go_wp2_with fail
 refine (c5.calls0) ?_
 intro w3 h3
 replace HS:=lH (HS.out.step (Up.up h3))
 clear h3
 go_wp2_with fail
 refine (c6.calls0) ?_
 intro w4 h4
 replace HS:=lH (HS.out.step (Up.up h4))
 clear h4
 go_wp2_with fail
 go_ret3
 exact ⟨rfl,HS.out⟩
set_option maxHeartbeats 4000000 in
theorem un_5 (t r1 nm r2 bd rp B a:ByteArray) (ok:Bool) (h2:nm.size <= 100000) (q:(a.toList == t.toList) = false)
   (c1:Ret 23 #[.string t,.string begB] (.tuple #[.string r1,.bool true]))
   (c2:KMk ML 24 #[.string r1,.string dshB] (.tuple #[.string nm,.string r2,.bool true]))
   (c3:Ret 25 #[.string r2,.string (endB ++ nm ++ dshB)] (.tuple #[.string bd,.bool true]))
   (c4:KMk ML 26 #[.string bd,.string ⟨#[10]⟩,.string ⟨#[]⟩] (.string rp))
   (c5:Mak 6 #[.string rp] (.tuple #[.string B,.bool ok]))
   (c6:Mak 8 #[.string nm,.string B] (.tuple #[.string a,.int .i64 0])) :
   KMk ML 10 #[.string t] (.tuple #[.string ⟨#[]⟩,.string ⟨#[]⟩,.int .i64 5]):=by
 intro w hT
 have HT:=lH hT
 have HS:=lH (Since.refl w)
 have k1:¬ 9223372036854775807 < endB.size + nm.size:=by show ¬ _ < 9 + nm.size; omega
 have k2:¬ 9223372036854775807 < (endB ++ nm).size + dshB.size:=by rw [ByteArray.size_append]; show ¬ _ < 9 + nm.size + 6; omega
 unfold begB at c1
 unfold dshB at c2
 unfold endB dshB at c3
 unfold endB at k1
 unfold endB dshB at k2
 clear hT h2
 go_enter Tryd.func10,Tryd.ntmps10
 go_wp2_with fail
 refine (c1).calls ?_
 go_wp2_with fail
 refine (c2.calls0 HT.out) ?_
 intro w1 h1
 replace HT:=lH (HT.out.step (Up.up h1))
 replace HS:=lH (HS.out.step (Up.up h1))
 clear h1
 go_wp2_with fail
 refine (c3).calls ?_
 go_wp2_with fail
 refine (c4.calls0 HT.out) ?_
 intro w2 h2
 replace HT:=lH (HT.out.step (Up.up h2))
 replace HS:=lH (HS.out.step (Up.up h2))
 clear h2
 go_wp2_with fail
 refine (c5.calls0) ?_
 intro w3 h3
 replace HS:=lH (HS.out.step (Up.up h3))
 clear h3
 go_wp2_with fail
 refine (c6.calls0) ?_
 intro w4 h4
 replace HS:=lH (HS.out.step (Up.up h4))
 clear h4
 go_wp2_with fail
 go_ret3
 exact ⟨rfl,HS.out⟩
set_option maxHeartbeats 4000000 in
theorem un_6 (t r1 nm r2 bd rp B a:ByteArray) (ok:Bool) (h2:nm.size <= 100000) (q:(a.toList == t.toList) = true)
   (c1:Ret 23 #[.string t,.string begB] (.tuple #[.string r1,.bool true]))
   (c2:KMk ML 24 #[.string r1,.string dshB] (.tuple #[.string nm,.string r2,.bool true]))
   (c3:Ret 25 #[.string r2,.string (endB ++ nm ++ dshB)] (.tuple #[.string bd,.bool true]))
   (c4:KMk ML 26 #[.string bd,.string ⟨#[10]⟩,.string ⟨#[]⟩] (.string rp))
   (c5:Mak 6 #[.string rp] (.tuple #[.string B,.bool ok]))
   (c6:Mak 8 #[.string nm,.string B] (.tuple #[.string a,.int .i64 0])) :
   KMk ML 10 #[.string t] (.tuple #[.string nm,.string B,.int .i64 0]):=by
 intro w hT
 have HT:=lH hT
 have HS:=lH (Since.refl w)
 have k1:¬ 9223372036854775807 < endB.size + nm.size:=by show ¬ _ < 9 + nm.size; omega
 have k2:¬ 9223372036854775807 < (endB ++ nm).size + dshB.size:=by rw [ByteArray.size_append]; show ¬ _ < 9 + nm.size + 6; omega
 unfold begB at c1
 unfold dshB at c2
 unfold endB dshB at c3
 unfold endB at k1
 unfold endB dshB at k2
 clear hT h2
 go_enter Tryd.func10,Tryd.ntmps10
 go_wp2_with fail
 refine (c1).calls ?_
 go_wp2_with fail
 refine (c2.calls0 HT.out) ?_
 intro w1 h1
 replace HT:=lH (HT.out.step (Up.up h1))
 replace HS:=lH (HS.out.step (Up.up h1))
 clear h1
 go_wp2_with fail
 refine (c3).calls ?_
 go_wp2_with fail
 refine (c4.calls0 HT.out) ?_
 intro w2 h2
 replace HT:=lH (HT.out.step (Up.up h2))
 replace HS:=lH (HS.out.step (Up.up h2))
 clear h2
 go_wp2_with fail
 refine (c5.calls0) ?_
 intro w3 h3
 replace HS:=lH (HS.out.step (Up.up h3))
 clear h3
 go_wp2_with fail
 refine (c6.calls0) ?_
 intro w4 h4
 replace HS:=lH (HS.out.step (Up.up h4))
 clear h4
 go_wp2_with fail
 go_ret3
 exact ⟨rfl,HS.out⟩
theorem cut_len (l p:List UInt8):(Lib.cut l p).1.length <= l.length /\ (Lib.cut l p).2.1.length <= l.length:=by
 unfold Lib.cut
 split
 · exact ⟨by rw [List.length_take]; omega,by rw [List.length_drop]; omega⟩
 · exact ⟨Nat.le_refl _,Nat.zero_le _⟩
theorem pre_len (p l:List UInt8):(preV p l).length <= l.length:=by
 unfold preV
 split
 · rw [List.length_drop]; omega
 · exact Nat.le_refl _
theorem suf_len (p l:List UInt8):(sufV p l).length <= l.length:=by
 unfold sufV
 split
 · rw [List.length_take]; omega
 · exact Nat.le_refl _
theorem bs_size (l:List UInt8):(bs l).size = l.length:=by
 show (bs l).data.toList.length = _
 rw [list_bs]
theorem unar_mk (t:ByteArray) (hm:t.size <= 100000):KMk ML 10 #[.string t] (.tuple #[.string (bs (unarV t.data.toList).1),.string (bs (unarV t.data.toList).2.1),.int .i64 (unarV t.data.toList).2.2]):=by
 obtain ⟨l,hl⟩:∃ l,l = t.data.toList:=⟨_,rfl⟩
 have hlz:l.length <= 100000:=by rw [hl]; exact hm
 obtain ⟨r1,hr1⟩:∃ r,r = bs (preV begL l):=⟨_,rfl⟩
 have z1:=pre_len begL l
 have l1:r1.data.toList = preV begL l:=by rw [hr1,list_bs]
 obtain ⟨nm,hnm⟩:∃ r,r = bs (Lib.cut (preV begL l) dshL).1:=⟨_,rfl⟩
 obtain ⟨r2,hr2⟩:∃ r,r = bs (Lib.cut (preV begL l) dshL).2.1:=⟨_,rfl⟩
 obtain ⟨b2,hb2⟩:∃ r,r = (Lib.cut (preV begL l) dshL).2.2:=⟨_,rfl⟩
 have z2:=cut_len (preV begL l) dshL
 have l2:nm.data.toList = (Lib.cut (preV begL l) dshL).1:=by rw [hnm,list_bs]
 have l3:r2.data.toList = (Lib.cut (preV begL l) dshL).2.1:=by rw [hr2,list_bs]
 have y1:r1.size <= 100000:=by rw [hr1,bs_size]; omega
 have y2:nm.size <= 100000:=by rw [hnm,bs_size]; omega
 have y3:r2.size <= 100000:=by rw [hr2,bs_size]; omega
 have ls:(endB ++ nm ++ dshB).data.toList = endL ++ nm.data.toList ++ dshL:=by
   rw [ByteArray.data_append,ByteArray.data_append,Array.toList_append,Array.toList_append]
   rfl
 have ys:(endB ++ nm ++ dshB).size <= 1000000:=by
   rw [ByteArray.size_append,ByteArray.size_append]
   show 9 + nm.size + 6 <= _
   omega
 obtain ⟨bd,hbd⟩:∃ r,r = bs (sufV (endL ++ nm.data.toList ++ dshL) r2.data.toList):=⟨_,rfl⟩
 have z3:=suf_len (endL ++ nm.data.toList ++ dshL) r2.data.toList
 have z4:r2.data.toList.length = r2.size:=rfl
 have l4:bd.data.toList = sufV (endL ++ nm.data.toList ++ dshL) r2.data.toList:=by rw [hbd,list_bs]
 have y4:bd.size <= 100000:=by rw [hbd,bs_size]; omega
 obtain ⟨rp,hrp⟩:∃ r,r = bs (bd.data.toList.filter (· ≠ 10)):=⟨_,rfl⟩
 have l5:rp.data.toList = bd.data.toList.filter (· ≠ 10):=by rw [hrp,list_bs]
 have y5:rp.size <= 100000:=by
   rw [hrp,bs_size]
   have h1:=List.length_filter_le (fun x:UInt8 => decide (x ≠ 10)) bd.data.toList
   have h2:bd.data.toList.length = bd.size:=rfl
   omega
 have c1:=pre_ret t begB (by omega) (by decide)
 rw [show begB.data.toList = begL from rfl,<- hl,<- hr1] at c1
 have c2:=cut_k r1 (by omega) nm r2 b2 (by rw [l1,l2,l3,hb2])
 have c3:=suf_ret r2 (endB ++ nm ++ dshB) (by omega) ys
 rw [ls,<- hbd] at c3
 have c4:=rep_k' bd (by omega)
 rw [<- hrp] at c4
 have c5:=unbase_mk rp (by omega)
 obtain ⟨B,hB⟩:∃ r,r = bs (unbV rp.data.toList).1:=⟨_,rfl⟩
 have l6:B.data.toList = bytesA bd.data.toList:=by
   rw [hB,list_bs,l5]
   rfl
 rw [<- hB] at c5
 have c6:=armor_mk nm B y2
 rw [<- hl]
 have hcut:=lib_cut dshL dash_ne (preV begL l)
 unfold unarV candA
 cases hp:begL.isPrefixOf l
 · rw [if_neg (by simp)]
   rw [hp] at c1
   exact un_1 t r1 nm r2 bd rp B _ _ y2 _ _ _ c1 c2 c3 c4 c5 c6
 rw [if_pos rfl]
 rw [hp] at c1
 have hpv:preV begL l = l.drop 11:=by unfold preV; rw [if_pos hp]; rfl
 rw [hpv] at hcut hb2 l2 l3
 cases hc:cutP dshL (l.drop 11) with
 | none =>
   rw [hc] at hcut
   rw [hcut] at hb2
   rw [hb2] at c2
   exact un_2 t r1 nm r2 bd rp B _ _ y2 _ _ c1 c2 c3 c4 c5 c6
 | some x =>
   obtain ⟨na,re⟩:=x
   rw [hc] at hcut
   rw [hcut] at hb2 l2 l3
   rw [hb2] at c2
   dsimp only at l2 l3 ⊢
   rw [l2,l3] at c3 l4
   cases hs:(endL ++ na ++ dshL).isSuffixOf re
   · rw [if_neg (by simp)]
     rw [hs] at c3
     exact un_3 t r1 nm r2 bd rp B _ _ y2 _ c1 c2 c3 c4 c5 c6
   · rw [if_pos rfl]
     rw [hs] at c3
     have l7:bd.data.toList = re.take (re.length - (endL ++ na ++ dshL).length):=by
       rw [l4]
       unfold sufV
       rw [if_pos hs]
     rw [l7] at l6
     dsimp only
     rw [<- l6,<- l2]
     obtain ⟨a,ha⟩:∃ a,a = bs (armV nm.data.toList B.data.toList).1:=⟨_,rfl⟩
     obtain ⟨e,he⟩:∃ e,e = (armV nm.data.toList B.data.toList).2:=⟨_,rfl⟩
     have hv:armV nm.data.toList B.data.toList = (a.data.toList,e):=by rw [ha,he,list_bs]
     rw [hv] at c6 ⊢
     rw [<- ba_of (a:=a) rfl] at c6
     by_cases h0:e = 0
     · subst h0
       by_cases h1:a.data.toList = l
       · rw [if_pos (by rw [h1]),<- ba_of (a:=nm) rfl,<- ba_of (a:=B) rfl]
         exact un_6 t r1 nm r2 bd rp B a _ y2 (by rw [toList_d,toList_d,h1,hl]; exact beq_self_eq_true _) c1 c2 c3 c4 c5 c6
       · rw [if_neg (fun h2 => h1 (congrArg (fun x => x.1) h2))]
         exact un_5 t r1 nm r2 bd rp B a _ y2 (by rw [toList_d,toList_d,<- hl]; exact beq_eq_false_iff_ne.2 h1) c1 c2 c3 c4 c5 c6
     · rw [if_neg (fun h2 => h0 (congrArg (fun x => x.2) h2))]
       exact un_4 t r1 nm r2 bd rp B a _ y2 e (beq_eq_false_iff_ne.2 h0) (by simpa using h0) h0 c1 c2 c3 c4 c5 c6
end Pm
namespace Pm
theorem ml_of {w:World} (h:w.ShapedOpen Tryd.prog):ML w:=by
 obtain ⟨m,hm⟩:=cell_of_shapedOpen_int (P:=Tryd.prog) (g:=0) (t:=3) (zero:=#[.int .i64 0]) h (of_decide_eq_true (by kernel_rfl)) (by kernel_rfl) rfl (by kernel_rfl) (by kernel_rfl) Tryd.underlying3
 refine ⟨?_,m,hm⟩
 unfold World.cell? at hm
 cases hh:w.heap[0]? with
 | none => rw [hh] at hm; cases hm
 | some o => exact (Array.getElem?_eq_some_iff.1 hh).1
def keyB:ByteArray:=⟨#[75,69,89]⟩
def ffB:ByteArray:=⟨#[255]⟩
def txtB:ByteArray:=⟨#[45,45,45,45,45,66,69,71,73,78,32,75,69,89,45,45,45,45,45,10,47,119,61,61,10,45,45,45,45,45,69,78,68,32,75,69,89,45,45,45,45,45,10]⟩
theorem arm_key:armV keyB.data.toList ffB.data.toList = (txtB.data.toList,0):=by decide +kernel
theorem unar_key:unarV txtB.data.toList = (keyB.data.toList,ffB.data.toList,0):=by
 have h:=unar_arm (name:=keyB.data.toList) (b:=ffB.data.toList) (by rw [arm_key])
 rwa [arm_key] at h
theorem base_abc:baseL [97,98,99] = [89,87,74,106]:=by decide +kernel
set_option maxHeartbeats 4000000 in
theorem awake:KMk ML 5 #[] (.bool true):=by
 intro w hT
 have HT:=lH hT
 have HS:=lH (Since.refl w)
 have c1:=armor_mk keyB ffB (by decide)
 rw [arm_key,<- ba_of (a:=txtB) rfl] at c1
 have c2:=unar_mk txtB (by decide)
 rw [unar_key,<- ba_of (a:=keyB) rfl,<- ba_of (a:=ffB) rfl] at c2
 have c3:=base_mk ⟨#[97,98,99]⟩ (by decide)
 rw [show bs (baseL (⟨#[97,98,99]⟩:ByteArray).data.toList) = ⟨#[89,87,74,106]⟩ from (congrArg bs base_abc).trans rfl] at c3
 unfold keyB ffB txtB at c1 c2
 clear hT
 go_enter Tryd.func5,Tryd.ntmps5
 go_wp2_with fail
 refine (c1.calls0) ?_
 intro w1 h1
 replace HT:=lH (HT.out.step (Up.up h1))
 replace HS:=lH (HS.out.step (Up.up h1))
 clear h1
 go_wp2_with fail
 refine (c2.calls0 HT.out) ?_
 intro w2 h2
 replace HT:=lH (HT.out.step (Up.up h2))
 replace HS:=lH (HS.out.step (Up.up h2))
 clear h2
 go_wp2_with fail
 refine (c3.calls0) ?_
 intro w3 h3
 replace HS:=lH (HS.out.step (Up.up h3))
 clear h3
 go_wp2_with fail
 go_ret
 exact ⟨rfl,HS.out⟩
end Pm
namespace Pm
open RefOct (low)
theorem pieces_lines:∀ (n:Nat) (l:List UInt8),l.length <= n -> (Oct.pcs l 64 ((l.length + 64 - 1) / 64)).map (·.data.toList) = linesL l
 | 0,l,h => by
   obtain rfl:l = []:=List.length_eq_zero_iff.1 (Nat.le_zero.1 h)
   rfl
 | n + 1,l,h => by
   by_cases h0:l = []
   · subst h0; rfl
   · have h1:0 < l.length:=List.length_pos_iff.2 h0
     have ih:=pieces_lines n (l.drop 64) (by rw [List.length_drop]; omega)
     rw [lines_step l h0,<- ih]
     have e:(l.length + 64 - 1) / 64 = ((l.drop 64).length + 64 - 1) / 64 + 1:=by
       rw [List.length_drop]
       omega
     rw [e]
     unfold Oct.pcs
     rw [List.range_succ_eq_map,List.map_cons,List.map_cons,List.map_map,List.map_map,List.map_map]
     congr 1
     apply List.map_congr_left
     intro i _
     show (Oct.pc l 64 (i + 1)).data.toList = (Oct.pc (l.drop 64) 64 i).data.toList
     unfold Oct.pc
     rw [list_bs,list_bs,List.drop_drop,show 64 + 64 * i = 64 * (i + 1) by omega]
theorem body_snoc (ls:List (List UInt8)) (x:List UInt8):bodyL (ls ++ [x]) = bodyL ls ++ (x ++ [10]):=by
 unfold bodyL
 rw [List.flatMap_append]
 simp
set_option maxHeartbeats 8000000 in
theorem rarm_long (nm b X:ByteArray) (L:List ByteArray) (H:List UInt8) (hn:nm.size <= 100000) (hb0:(b.toList == ([]:List UInt8)) = false) (hb1:b.size <= 65552) (hL:1 <= L.length) (hLl:L.length <= 100000) (hL64:∀ x ∈ L,x.size <= 64) (hH:H = begL ++ nm.data.toList ++ dshL ++ bodyL (L.map (·.data.toList)) ++ endL ++ nm.data.toList ++ dshL)
   (c1:Mak 21 #[.string nm] (.bool true)) (c2:Mak 13 #[.string b] (.string X)) (c3:MakS 22 #[.string X,.int .i64 64] L) :
   Mak 9 #[.string nm,.string b] (.tuple #[.string (bs H),.int .i64 0]):=by
 intro w
 have HS:=lH (Since.refl w)
 obtain ⟨m,hm⟩:∃ m,m = L.length:=⟨_,rfl⟩
 have HLM:=lH hm.symm
 rw [<- hm] at hL hLl
 have HHH:=lH hH
 have HL64:=lH hL64
 have y1:¬ 9223372036854775807 < (⟨#[45,45,45,45,45,66,69,71,73,78,32]⟩:ByteArray).size + nm.size:=by show ¬ _ < 11 + nm.size; omega
 have y2:¬ 9223372036854775807 < ((⟨#[45,45,45,45,45,66,69,71,73,78,32]⟩:ByteArray) ++ nm).size + (⟨#[45,45,45,45,45,10]⟩:ByteArray).size:=by rw [ByteArray.size_append]; show ¬ _ < 11 + nm.size + 6; omega
 clear hm hH hL64
 go_enter Tryd.func9,Tryd.ntmps9
 go_wp2_with fail
 refine c1.calls0 ?_
 intro w1 h1
 replace HS:=lH (HS.out.step h1)
 clear h1
 go_wp2_with fail
 refine c2.calls0 ?_
 intro w2 h2
 replace HS:=lH (HS.out.step h2)
 clear h2
 go_wp2_with fail
 refine (c3 w2).mono ?_
 rintro _ w3 ⟨V,rfl,hO,h3⟩
 replace HS:=lH (HS.out.step h3)
 unfold Strs at hO
 rw [HLM.out] at hO
 obtain ⟨g,c,rfl,-,-⟩:=own_addr hO hL
 have HO:=lH hO
 clear h3 hO
 obtain ⟨O0,hO0⟩:∃ O,O = (⟨#[45,45,45,45,45,66,69,71,73,78,32]⟩:ByteArray) ++ nm ++ ⟨#[45,45,45,45,45,10]⟩:=⟨_,rfl⟩
 have HO0:Hid (O0.data.toList = begL ++ nm.data.toList ++ dshL):=lH (by rw [hO0,app_list,app_list]; rfl)
 have HZ0:Hid (O0.size <= 100020):=lH (by rw [hO0,ByteArray.size_append,ByteArray.size_append]; show 11 + nm.size + 6 <= _; omega)
 go_wp2_with fail
 rw [<- hO0]
 clear hO0
 go_loop [6,8] (fun o i => ∃ (k:Nat) (O:ByteArray),k <= m /\ i = .int .i64 (k:Int) /\ o = .string O /\ Hid (O.data.toList = begL ++ nm.data.toList ++ dshL ++ bodyL ((L.map (·.data.toList)).take k)) /\ Hid (O.size <= 100020 + 70 * k)) (fun _ i => m - (intOf i).toNat)
 case atStart => exact ⟨0,O0,Nat.zero_le _,rfl,rfl,lH (by rw [HO0.out,List.take_zero]; unfold bodyL; simp),HZ0⟩
 case round =>
   clear HO0 HZ0
   obtain ⟨k,O,hk,rfl,rfl,HOL,HOZ⟩:=hrel
   by_cases hlt:k < m
   · have hk2:k < L.length:=by rw [HLM.out]; exact hlt
     obtain ⟨y,hy⟩:∃ y,y = L[k]:=⟨_,rfl⟩
     have hyz:y.size <= 64:=HL64.out y (by rw [hy]; exact List.getElem_mem hk2)
     have hcell:=own_cell HO.out k (.string y) (by rw [List.getElem?_map,List.getElem?_eq_getElem hk2,hy]; rfl)
     have HTK:Hid ((L.map (·.data.toList)).take (k + 1) = (L.map (·.data.toList)).take k ++ [y.data.toList]):=lH (by
       rw [List.take_succ_eq_append_getElem (by rw [List.length_map]; exact hk2),List.getElem_map,hy])
     have i1:(0:Int) <= (k:Int):=by omega
     have i2:(k:Int) < (m:Int):=by omega
     have z0:=HOZ.out
     have z1:¬ 9223372036854775807 < O.size + y.size:=by omega
     have z2:¬ 9223372036854775807 < (O ++ y).size + (⟨#[10]⟩:ByteArray).size:=by rw [ByteArray.size_append]; show ¬ _ < O.size + y.size + 1; omega
     have HF:Hid ((O ++ y ++ ⟨#[10]⟩).data.toList = begL ++ nm.data.toList ++ dshL ++ bodyL ((L.map (·.data.toList)).take (k + 1))):=lH (by
       rw [app_list,app_list,HOL.out,HTK.out,body_snoc]
       simp only [List.append_assoc])
     have HFZ:Hid ((O ++ y ++ ⟨#[10]⟩).size <= 100020 + 70 * (k + 1)):=lH (by rw [ByteArray.size_append,ByteArray.size_append]; show O.size + y.size + 1 <= _; omega)
     clear hy hk2 HTK
     go_wp2_with fail
     go_round
     case rel => exact ⟨k + 1,_,hlt,by go_num,rfl,HF,HFZ⟩
     case measure => (simp [intOf] <;> omega)
   · obtain rfl:k = m:=by omega
     have z0:=HOZ.out
     have z1:¬ 9223372036854775807 < O.size + (⟨#[45,45,45,45,45,69,78,68,32]⟩:ByteArray).size:=by show ¬ _ < O.size + 9; omega
     have z2:¬ 9223372036854775807 < (O ++ ⟨#[45,45,45,45,45,69,78,68,32]⟩).size + nm.size:=by rw [ByteArray.size_append]; show ¬ _ < O.size + 9 + nm.size; omega
     have z3:¬ 9223372036854775807 < (O ++ ⟨#[45,45,45,45,45,69,78,68,32]⟩ ++ nm).size + (⟨#[45,45,45,45,45,10]⟩:ByteArray).size:=by rw [ByteArray.size_append,ByteArray.size_append]; show ¬ _ < O.size + 9 + nm.size + 6; omega
     have HF:Hid (bs H = O ++ ⟨#[45,45,45,45,45,69,78,68,32]⟩ ++ nm ++ ⟨#[45,45,45,45,45,10]⟩):=lH (by
       apply ba_ext
       rw [list_bs,app_list,app_list,app_list,HOL.out,HHH.out,List.take_of_length_le (by rw [List.length_map,HLM.out]; exact Nat.le_refl _)]
       rfl)
     go_wp2_with fail
     go_ret2
     rw [HF.out]
     exact ⟨rfl,HS.out⟩
theorem rarmor_mk (nm b:ByteArray) (hn:nm.size <= 100000):Mak 9 #[.string nm,.string b] (.tuple #[.string (bs (armV nm.data.toList b.data.toList).1),.int .i64 (armV nm.data.toList b.data.toList).2]):=by
 have c1:=rnamed_mk nm hn
 unfold armV
 cases hk:nameOk nm.data.toList
 · rw [hk] at c1
   rw [if_pos rfl]
   intro w
   have HS:=lH (Since.refl w)
   clear hk hn
   go_enter Tryd.func9,Tryd.ntmps9
   go_wp2_with fail
   refine c1.calls0 ?_
   intro w1 h1
   replace HS:=lH (HS.out.step h1)
   clear h1
   go_wp2_with fail
   go_ret2
   exact ⟨rfl,HS.out⟩
 rw [hk] at c1
 rw [if_neg (by decide)]
 by_cases hb:b.data.toList = []
 · rw [if_pos hb]
   have q1:(b.toList == ([]:List UInt8)) = true:=by rw [toList_d,hb]; rfl
   intro w
   have HS:=lH (Since.refl w)
   clear hk hb
   go_enter Tryd.func9,Tryd.ntmps9
   go_wp2_with fail
   refine c1.calls0 ?_
   intro w1 h1
   replace HS:=lH (HS.out.step h1)
   clear h1
   go_wp2_with fail
   go_ret2
   exact ⟨rfl,HS.out⟩
 rw [if_neg hb]
 have q1:(b.toList == ([]:List UInt8)) = false:=by rw [toList_d]; exact beq_eq_false_iff_ne.2 hb
 by_cases hz:65552 < b.data.toList.length
 · rw [if_pos hz]
   have hz2:65552 < b.size:=hz
   intro w
   have HS:=lH (Since.refl w)
   clear hk hb hz
   go_enter Tryd.func9,Tryd.ntmps9
   go_wp2_with fail
   refine c1.calls0 ?_
   intro w1 h1
   replace HS:=lH (HS.out.step h1)
   clear h1
   go_wp2_with fail
   go_ret2
   exact ⟨rfl,HS.out⟩
 rw [if_neg hz]
 have hz2:b.size <= 65552:=by
   have:b.data.toList.length = b.size:=rfl
   omega
 obtain ⟨X,hX⟩:∃ X,X = bs (baseL b.data.toList):=⟨_,rfl⟩
 have c2:=rbase_mk b (by omega)
 rw [<- hX] at c2
 have hXl:X.data.toList = baseL b.data.toList:=by rw [hX,list_bs]
 have hXz:X.size = (baseL b.data.toList).length:=by rw [<- hXl]; rfl
 have hbl:=base_len b.data.toList
 have hbz:b.data.toList.length = b.size:=rfl
 have hc3:=RefOct.pieces_mak X 64 (by decide) (by decide) (by omega) _ rfl
 have hp:=pieces_lines X.data.toList.length X.data.toList (Nat.le_refl _)
 obtain ⟨L,hL⟩:∃ L,L = Oct.pcs X.data.toList 64 ((X.size + 64 - 1) / 64):=⟨_,rfl⟩
 rw [<- hL] at hc3
 have hL2:L.map (·.data.toList) = linesL (baseL b.data.toList):=by rw [hL,<- hXl]; exact hp
 have hLl:L.length = (X.size + 64 - 1) / 64:=by rw [hL,Oct.pcs_len]
 refine rarm_long nm b X L _ hn q1 hz2 (by
   have:0 < b.data.toList.length:=List.length_pos_iff.2 hb
   omega) (by omega) (fun x hx => by
     rw [hL] at hx
     unfold Oct.pcs at hx
     obtain ⟨i,-,rfl⟩:=List.mem_map.1 hx
     unfold Oct.pc
     rw [sz_bs,List.length_take]
     omega) (by
   rw [hL2]
   rfl) c1 c2 hc3
end Pm
namespace Pm
def SRow (w wr:World) (V:Value) (l:List ByteArray):Prop:=Rw.Rows wr w.heap.size (([]:List Rw.Row) ++ ⟨9,1,V,l.length,l.map Value.string⟩ :: [])
theorem SRow.nil (w wr:World):SRow w wr (.slice none 0 0) []:=⟨fun r hr => by rw [List.mem_singleton.1 hr]; exact World.ownsRow_nil _ _ _ _,by simp⟩
theorem SRow.row {w wr:World} {V:Value} {l:List ByteArray} (h:SRow w wr V l):wr.ownsRow w.heap.size 9 1 V l.length (l.map Value.string):=h.get
theorem SRow.val {w wr:World} {V:Value} {l:List ByteArray} (h:SRow w wr V l):∃ A c,V = .slice A l.length c:=by
 rcases h.row.2 with ⟨h0,h1⟩ | ⟨g',cap,cur,hv,_⟩
 · exact ⟨none,0,by rw [show l.length = 0 from h1]; exact h0⟩
 · exact ⟨_,_,hv⟩
theorem SRow.app {w wr:World} {V:Value} {l:List ByteArray} (s:ByteArray) (h:Rw.Rows wr w.heap.size (([]:List Rw.Row) ++ ⟨9,1,V,l.length + 1,l.map Value.string ++ (#[.string s]:Array Value).toList⟩ :: [])):SRow w wr V (l ++ [s]):=by
 unfold SRow
 rw [List.length_append,List.map_append]
 exact h
theorem s_one (s:ByteArray):∀ u ∈ (#[.string s]:Array Value).toList,u.oneCell' = true:=by
 intro u hu
 simp only [List.mem_cons,List.not_mem_nil,or_false] at hu
 subst hu
 rfl
theorem byte_cut (t:ByteArray) (k:Nat) (h:k < t.size):t.extract k (k + 1) = bs [t[k]]:=by
 apply ba_ext
 rw [ByteArray.data_extract,Array.toList_extract,list_bs]
 unfold List.extract
 rw [show k + 1 - k = 1 by omega,List.take_one,List.head?_drop,List.getElem?_eq_getElem (by simpa using h)]
 rfl
theorem take_byte (t:ByteArray) (k:Nat) (h:k < t.size):t.data.toList.take (k + 1) = t.data.toList.take k ++ [t[k]]:=by
 rw [List.take_succ_eq_append_getElem (by simpa using h)]
 rfl
theorem pcs_flat (c:UInt8):∀ l:List UInt8,(Sp.pcs c l).flatten.length <= l.length
 | [] => Nat.le_refl _
 | x :: l => by
   have ih:=pcs_flat c l
   rw [Sp.pcs]
   split
   · rw [List.flatten_cons,List.nil_append,List.length_cons]
     omega
   · split
     · simp
     · rename_i h9
       rw [h9] at ih
       simp only [List.flatten_cons,List.length_append,List.length_cons] at ih ⊢
       omega
theorem mid_le (t:List UInt8) (L:List (List UInt8)) (S:List UInt8) (h:Sp.pcs 10 t = L ++ [S]) (i j:Nat):(((L.drop i).take j).flatten).length <= t.length:=by
 have h1:=pcs_flat 10 t
 rw [h,List.flatten_append,List.length_append] at h1
 have h2:((L.drop i).take j).flatten.length <= L.flatten.length:=by
   have e:L.flatten = (L.take i).flatten ++ (((L.drop i).take j).flatten ++ ((L.drop i).drop j).flatten):=by
     rw [<- List.flatten_append,List.take_append_drop,<- List.flatten_append,List.take_append_drop]
   rw [e,List.length_append,List.length_append]
   omega
 omega
theorem one_le (t:List UInt8) (L:List (List UInt8)) (S x:List UInt8) (h:Sp.pcs 10 t = L ++ [S]) (hx:x ∈ L):x.length <= t.length:=by
 have h1:=pcs_flat 10 t
 rw [h,List.flatten_append,List.length_append] at h1
 obtain ⟨A,B,rfl⟩:=List.append_of_mem hx
 simp only [List.flatten_append,List.flatten_cons,List.length_append] at h1
 omega
theorem mid_last (L:List (List UInt8)):(L.drop 1).take (L.length - 1 - 1) = (L.drop 1).dropLast:=by
 rw [List.dropLast_eq_take,List.length_drop]
set_option maxHeartbeats 16000000 in
theorem runar_mk (t:ByteArray) (hm:t.size <= 100000):Mak 11 #[.string t] (.tuple #[.string (bs (unarV t.data.toList).1),.string (bs (unarV t.data.toList).2.1),.int .i64 (unarV t.data.toList).2.2]):=by
 intro w
 rw [<- runar_eq]
 have HM:=lH hm
 obtain ⟨n,hn⟩:∃ n,n = t.size:=⟨_,rfl⟩
 have HN:=lH hn
 clear hn
 obtain ⟨R,hR⟩:∃ R,R = runar t.data.toList (rlin t.data.toList):=⟨_,rfl⟩
 have HR0:=lH hR
 rw [<- hR]
 clear hm hR
 go_enter Tryd.func11,Tryd.ntmps11
 go_wp2_with fail
 go_loopw [5,6,7] (fun V o i wr => ∃ (k:Nat) (P:List ByteArray) (S:ByteArray),k <= t.size /\ i = .int .i64 (k:Int) /\ o = .string S /\ Hid (Sp.pcs 10 (t.data.toList.take k) = P.map (·.data.toList) ++ [S.data.toList]) /\ Hid (P.length <= k) /\ Hid (S.size <= k) /\ Hid (SRow w wr V P) /\ Hid (Since w wr)) (fun _ _ i _ => t.size - (intOf i).toNat)
 case atStart => exact ⟨0,[],⟨#[]⟩,Nat.zero_le _,rfl,rfl,lH rfl,lH (Nat.le_refl _),lH (Nat.le_refl _),lH (SRow.nil _ _),lH (Since.refl w)⟩
 case round =>
   obtain ⟨k,P,S,hk,rfl,rfl,HP,HL,HB,HR,HS⟩:=hrel
   obtain ⟨VA,vc,rfl⟩:=HR.out.val
   by_cases hlt:k < t.size
   · have HTB:=lH (take_byte t k hlt)
     have HBC:=lH (byte_cut t k hlt)
     have i1:(0:Int) <= (k:Int):=by omega
     have i2:(k:Int) < (t.size:Int):=by omega
     have e1:IntKind.i64.wrap ((k:Int) + 1) = ((k + 1:Nat):Int):=by rw [IntWalk.i64_in _ (by have:=HM.out; omega)]; omega
     have HSN:=lH (pcs_snoc 10 t[k] (t.data.toList.take k) _ _ HP.out)
     by_cases hc:t[k] = 10
     · have t1:((t[k].toNat:Int) == 10) = true:=by rw [hc]; rfl
       have HP2:Hid (Sp.pcs 10 (t.data.toList.take (k + 1)) = (P ++ [S]).map (·.data.toList) ++ [(⟨#[]⟩:ByteArray).data.toList]):=lH (by
         rw [HTB.out,HSN.out,if_pos hc,List.map_append]
         rfl)
       have HB1:=lH (show P.length + 1 <= maxLen by have:=HL.out; have:=HM.out; unfold maxLen; omega)
       have HB2:=lH (show (P.length + 1) * 16 <= 140737488355328 by have:=HL.out; have:=HM.out; omega)
       clear hc HBC
       go_wp2_with (at_builtin; refine Rw.app_rows elemS rfl _ _ (by rfl) w wr _ rfl [] [] _ P.length _ (by rfl) HR.out HS.out #[.string S] 1 1 (by rfl) rfl (s_one S) HB1.out HB2.out ?_; intro V2 w4 HQ2 HT2 _)
       have HF:Hid (SRow w w4 V2 (P ++ [S])):=lH (SRow.app S HQ2)
       have HS4:=lH HT2
       clear HQ2 HT2
       go_wp2_with fail
       go_roundw
       case rel => exact ⟨k + 1,P ++ [S],⟨#[]⟩,hlt,by go_num,rfl,HP2,lH (by rw [List.length_append]; exact Nat.succ_le_succ HL.out),lH (Nat.zero_le _),HF,HS4⟩
       case measure => (simp [intOf] <;> omega)
     · have t1:((t[k].toNat:Int) == 10) = false:=beq_eq_false_iff_ne.2 (fun h => hc (UInt8.toNat_inj.1 (by show t[k].toNat = 10; omega)))
       have HZ1:Hid ((S ++ t.extract k (k + 1)).size = S.size + 1):=lH (by
         have h8:=congrArg List.length (app_list S (t.extract k (k + 1)))
         rw [HBC.out,List.length_append,list_bs] at h8
         rw [HBC.out]
         exact h8)
       have HP2:Hid (Sp.pcs 10 (t.data.toList.take (k + 1)) = P.map (·.data.toList) ++ [(S ++ t.extract k (k + 1)).data.toList]):=lH (by
         rw [HTB.out,HSN.out,if_neg hc,app_list,HBC.out,list_bs])
       have z1:¬ 9223372036854775807 < S.size + (t.extract k (k + 1)).size:=by
         rw [HBC.out,sz_bs]
         have:=HB.out
         have:=HM.out
         show ¬ 9223372036854775807 < S.size + 1
         omega
       have n1:((k + 1:Nat):Int).toNat = k + 1:=by omega
       have z2:((k + 1:Nat):Int) <= (t.size:Int):=by omega
       have z3:(k:Int) <= ((k + 1:Nat):Int):=by omega
       have z4:(0:Int) <= ((k + 1:Nat):Int):=by omega
       clear hc HBC
       go_wp2_with fail
       go_roundw
       case rel => exact ⟨k + 1,P,S ++ t.extract k (k + 1),hlt,by go_num,rfl,HP2,lH (Nat.le_succ_of_le HL.out),lH (by rw [HZ1.out]; exact Nat.succ_le_succ HB.out),HR,HS⟩
       case measure => (simp [intOf] <;> omega)
   · obtain rfl:k = t.size:=by omega
     have HPE:Hid (Sp.pcs 10 t.data.toList = P.map (·.data.toList) ++ [S.data.toList]):=lH (by
       have h9:=HP.out
       rwa [List.take_of_length_le (by simp)] at h9)
     have HRL:Hid (rlin t.data.toList = P.map (·.data.toList)):=lH (by unfold rlin; rw [HPE.out,List.dropLast_concat])
     obtain ⟨m,hmm⟩:∃ m,m = P.length:=⟨_,rfl⟩
     have HPM:=lH hmm.symm
     have HRW:Hid (wr.ownsRow w.heap.size 9 1 (.slice VA m vc) m (P.map Value.string)):=lH (by rw [hmm]; exact HR.out.row)
     have hmb:m <= 100000:=by have:=HL.out; have:=HM.out; omega
     rw [<- hmm]
     clear hmm HP HL HB HR
     by_cases h3:m < 3
     · have HV:Hid (R = ([],[],5)):=lH (by rw [HR0.out,HRL.out]; unfold runar; rw [if_pos (Or.inl (by rw [List.length_map,HPM.out]; exact h3))])
       go_wp2_with fail
       go_ret3
       rw [HV.out]
       exact ⟨rfl,HS.out⟩
     obtain ⟨g,c,hV,-,-⟩:=own_addr HRW.out (by omega)
     cases hV
     obtain ⟨y,hy⟩:∃ y,P[0]? = some y:=⟨P[0]'(by rw [HPM.out]; omega),List.getElem?_eq_getElem _⟩
     have m0:=own_cell HRW.out 0 (.string y) (by rw [List.getElem?_map,hy]; rfl)
     have HY0:Hid ((P.map (·.data.toList)).getD 0 [] = y.data.toList):=lH (by rw [List.getD_eq_getElem?_getD,List.getElem?_map,hy]; rfl)
     have hyz:y.size <= t.size:=one_le t.data.toList _ _ y.data.toList HPE.out (by
       refine List.mem_map.2 ⟨y,List.mem_of_getElem? hy,rfl⟩)
     have hyb:y.size <= 100000:=by have:=HM.out; omega
     have j1:(0:Int) < (m:Int):=by omega
     have j2:0 < m:=by omega
     clear hy
     by_cases h17:y.size < 17
     · have HV:Hid (R = ([],[],5)):=lH (by rw [HR0.out,HRL.out]; unfold runar; rw [if_pos (Or.inr (by rw [HY0.out]; exact h17))])
       go_wp2_with fail
       go_ret3
       rw [HV.out]
       exact ⟨rfl,HS.out⟩
     obtain ⟨e,he⟩:∃ e,e = y.size - 5:=⟨_,rfl⟩
     have e1:IntKind.i64.wrap ((y.size:Int) - 5) = (e:Int):=by rw [IntWalk.i64_in _ (by omega)]; omega
     have e2:(y.size:Int) - 5 = (e:Int):=by omega
     have e3:(11:Int) <= (e:Int):=by omega
     have e4:(e:Int) <= (y.size:Int):=by omega
     have e5:e <= y.size:=by omega
     have e6:11 <= e:=by omega
     obtain ⟨N,hN⟩:∃ N,N = y.extract 11 e:=⟨_,rfl⟩
     have hNl:N.data.toList = rnm y.data.toList:=by
       rw [hN,ext_list]
       unfold rnm
       rw [show e - 11 = y.data.toList.length - 16 by rw [he]; show y.size - 5 - 11 = y.size - 16; omega]
     have hNz:N.size <= 100000:=by rw [hN,ByteArray.size_extract]; omega
     have HV0:Hid (R = if (unbV (((P.map (·.data.toList)).drop 1).dropLast).flatten).2 = true /\ armV N.data.toList (unbV (((P.map (·.data.toList)).drop 1).dropLast).flatten).1 = (t.data.toList,0) then (N.data.toList,(unbV (((P.map (·.data.toList)).drop 1).dropLast).flatten).1,0) else ([],[],5)):=lH (by
       rw [HR0.out,HRL.out]
       unfold runar
       rw [if_neg,HY0.out,hNl]
       rintro (h9 | h9)
       · rw [List.length_map,HPM.out] at h9; omega
       · rw [HY0.out] at h9; exact h17 h9)
     obtain ⟨z,hz⟩:∃ z,z = m - 1:=⟨_,rfl⟩
     have f1:IntKind.i64.wrap ((m:Int) - 1) = (z:Int):=by rw [IntWalk.i64_in _ (by omega)]; omega
     have f2:(m:Int) - 1 = (z:Int):=by omega
     have HNN:=lH hN.symm
     clear he hNl hN
     go_wp2_with fail
     go_quiet (fail)
     have hd:Below wr.heap.size wr (wr.drewN nq):=⟨rfl,rfl,rfl,Nat.le_refl _,fun _ _ => rfl⟩
     replace HS:=lH (HS.out.step hd)
     replace HRW:=lH (Att.row_since HRW.out hd)
     obtain ⟨w4,hw4⟩:∃ w4,w4 = wr.drewN nq:=⟨_,rfl⟩
     rw [<- hw4] at HS HRW ⊢
     rw [HNN.out]
     clear hd hw4 m0
     go_wp2_with fail
     go_loop [9,10] (fun a i => ∃ (k j:Nat) (A:ByteArray),1 <= k /\ k <= z /\ i = .int .i64 (k:Int) /\ a = .string A /\ Hid (k = j + 1) /\ Hid (A.data.toList = (((P.map (·.data.toList)).drop 1).take j).flatten)) (fun _ i => z - (intOf i).toNat)
     case atStart => exact ⟨1,0,⟨#[]⟩,Nat.le_refl _,by omega,rfl,rfl,lH rfl,lH (by rw [List.take_zero]; rfl)⟩
     case round =>
       obtain ⟨k,j,A,hk1,hkz,rfl,rfl,HJ,HA⟩:=hrel
       have haz:A.size <= t.size:=by
         have h9:=mid_le t.data.toList _ _ HPE.out 1 j
         rw [<- HA.out] at h9
         exact h9
       have htz:=HM.out
       by_cases hlt:k < z
       · have hk2:k < P.length:=by rw [HPM.out]; omega
         obtain ⟨x,hx⟩:∃ x,x = P[k]:=⟨_,rfl⟩
         have hcell:=own_cell HRW.out k (.string x) (by rw [List.getElem?_map,List.getElem?_eq_getElem hk2,hx]; rfl)
         have hxz:x.size <= t.size:=one_le t.data.toList _ _ x.data.toList HPE.out (List.mem_map.2 ⟨x,by rw [hx]; exact List.getElem_mem hk2,rfl⟩)
         have HA2:Hid ((A ++ x).data.toList = (((P.map (·.data.toList)).drop 1).take (j + 1)).flatten):=lH (by
           have e:(((P.map (·.data.toList)).drop 1).take (j + 1)) = (((P.map (·.data.toList)).drop 1).take j) ++ [x.data.toList]:=by
             have e0:((P.map (·.data.toList)).drop 1)[j]? = some x.data.toList:=by
               rw [List.getElem?_drop,List.getElem?_map,show 1 + j = k by have:=HJ.out; omega,List.getElem?_eq_getElem hk2,hx]
               rfl
             rw [List.take_add_one,e0]
             rfl
           rw [e,app_list,HA.out,List.flatten_append]
           simp)
         have i1:(0:Int) <= (k:Int):=by omega
         have i2:(k:Int) < (m:Int):=by omega
         have z1:¬ 9223372036854775807 < A.size + x.size:=by omega
         have HJ2:Hid (k + 1 = (j + 1) + 1):=lH (by rw [HJ.out])
         have hkz2:k + 1 <= z:=hlt
         clear hx hk2 HA HJ
         go_wp2_with fail
         go_round
         case rel => exact ⟨k + 1,j + 1,_,by omega,hkz2,by go_num,rfl,HJ2,HA2⟩
         case measure => (simp [intOf] <;> omega)
       · obtain rfl:k = z:=by omega
         have HA2:Hid (A.data.toList = (((P.map (·.data.toList)).drop 1).dropLast).flatten):=lH (by
           rw [HA.out,<- mid_last,List.length_map,HPM.out]
           have h8:=HJ.out
           rw [show m - 1 - 1 = j by omega])
         have HV1:=HV0.out
         rw [<- HA2.out] at HV1
         have c1:=runbase_mk A (by omega)
         obtain ⟨B,hB⟩:∃ B,B = bs (unbV A.data.toList).1:=⟨_,rfl⟩
         have hBl:(unbV A.data.toList).1 = B.data.toList:=by rw [hB,list_bs]
         rw [<- hB] at c1
         obtain ⟨ok,hok⟩:∃ ok,ok = (unbV A.data.toList).2:=⟨_,rfl⟩
         rw [<- hok] at c1
         rw [hBl,<- hok] at HV1
         have c2:=rarmor_mk N B hNz
         obtain ⟨a,ha⟩:∃ a,a = bs (armV N.data.toList B.data.toList).1:=⟨_,rfl⟩
         obtain ⟨q,hq⟩:∃ q,q = (armV N.data.toList B.data.toList).2:=⟨_,rfl⟩
         have hv:armV N.data.toList B.data.toList = (a.data.toList,q):=by rw [ha,hq,list_bs]
         rw [<- ha,<- hq] at c2
         rw [hv] at HV1
         clear hB hBl hok ha hq hv HA HV0 f1 f2 e1 e2 HJ
         cases ok
         · have HV:Hid (R = ([],[],5)):=lH (by rw [HV1,if_neg (fun h9 => by cases h9.1)])
           clear HV1
           go_wp2_with fail
           refine c1.calls0 ?_
           intro w5 h5
           replace HS:=lH (HS.out.step h5)
           clear h5
           go_wp2_with fail
           refine c2.calls0 ?_
           intro w6 h6
           replace HS:=lH (HS.out.step h6)
           clear h6
           go_wp2_with fail
           go_ret3
           rw [HV.out]
           exact ⟨rfl,HS.out⟩
         by_cases h0:q = 0
         · subst h0
           by_cases h1:a.data.toList = t.data.toList
           · have HV:Hid (R = (N.data.toList,B.data.toList,0)):=lH (by rw [HV1,if_pos ⟨rfl,by rw [h1]⟩])
             have q1:(a.toList == t.toList) = true:=by rw [toList_d,toList_d,h1]; exact beq_self_eq_true _
             have HNB:Hid (bs N.data.toList = N /\ bs B.data.toList = B):=lH ⟨ba_ext (list_bs _),ba_ext (list_bs _)⟩
             clear HV1 h1
             go_wp2_with fail
             refine c1.calls0 ?_
             intro w5 h5
             replace HS:=lH (HS.out.step h5)
             clear h5
             go_wp2_with fail
             refine c2.calls0 ?_
             intro w6 h6
             replace HS:=lH (HS.out.step h6)
             clear h6
             go_wp2_with fail
             go_ret3
             rw [HV.out,HNB.out.1,HNB.out.2]
             exact ⟨rfl,HS.out⟩
           · have HV:Hid (R = ([],[],5)):=lH (by rw [HV1,if_neg (fun h9 => h1 (congrArg Prod.fst h9.2))])
             have q1:(a.toList == t.toList) = false:=by rw [toList_d,toList_d]; exact beq_eq_false_iff_ne.2 h1
             clear HV1 h1
             go_wp2_with fail
             refine c1.calls0 ?_
             intro w5 h5
             replace HS:=lH (HS.out.step h5)
             clear h5
             go_wp2_with fail
             refine c2.calls0 ?_
             intro w6 h6
             replace HS:=lH (HS.out.step h6)
             clear h6
             go_wp2_with fail
             go_ret3
             rw [HV.out]
             exact ⟨rfl,HS.out⟩
         · have HV:Hid (R = ([],[],5)):=lH (by rw [HV1,if_neg (fun h9 => h0 (congrArg Prod.snd h9.2))])
           have q0:(q == 0) = false:=beq_eq_false_iff_ne.2 h0
           have q1:(q != 0) = true:=by rw [bne,q0]; rfl
           clear HV1
           go_wp2_with fail
           refine c1.calls0 ?_
           intro w5 h5
           replace HS:=lH (HS.out.step h5)
           clear h5
           go_wp2_with fail
           refine c2.calls0 ?_
           intro w6 h6
           replace HS:=lH (HS.out.step h6)
           clear h6
           go_wp2_with fail
           go_ret3
           rw [HV.out]
           exact ⟨rfl,HS.out⟩
end Pm
end Go.Proofs.YtagmgldibjjeeaaDoor
