import Derived.Test.YtddlaafpianjbaaGreatDoorBo3
import Derived.LaidMore
import Derived.Deep.MidRow
import Derived.Lib.SmallJoins
set_option maxRecDepth 100000
namespace Go.Proofs.YtddlaafpianjbaaGreatDoor
open Go.RowKit
def KMk (K:World -> Prop) (f:Nat) (args:Array Value) (v:Value):Prop:=∀ w,K w -> Calls Tryz.prog f args w fun e w' => e = .returned v /\ Below w.heap.size w w'
class Kp (K:World -> Prop):Prop where
 keep:∀ {w w':World},K w -> Below w.heap.size w w' -> K w'
theorem KMk.calls0 {K:World -> Prop} {f:Nat} {args:Array Value} {v:Value} (h:KMk K f args v) {w:World} (hT:K w) {R:Ending -> World -> Prop} (k:∀ w',Below w.heap.size w w' -> R (.returned v) w'):Calls Tryz.prog f args w R :=
 (h w hT).mono fun _ _ ⟨he,hb⟩ => by subst he; exact k _ hb
theorem Mak.k {K:World -> Prop} {f:Nat} {args:Array Value} {v:Value} (h:Mak f args v):KMk K f args v:=fun w _ => h w
theorem Ret.k {K:World -> Prop} {f:Nat} {args:Array Value} {v:Value} (h:Ret f args v):KMk K f args v:=h.mak.k
theorem KMk.weak {K K2:World -> Prop} {f:Nat} {args:Array Value} {v:Value} (h:KMk K f args v) (hk:∀ w,K2 w -> K w):KMk K2 f args v:=fun w hw => h w (hk w hw)
instance Kp.and {K K2:World -> Prop} [Kp K] [Kp K2]:Kp (fun w => K w /\ K2 w):=⟨fun h hb => ⟨Kp.keep h.1 hb,Kp.keep h.2 hb⟩⟩
theorem lit_str {H:Type} {enc:TypeId × Value -> H} {P:Program} {w:World} {base:Nat} {sp:Nat -> Bool} {held:Bool} {m:Nat} {t:TypeId} {cs:List Value} {l:List UInt8} {p:List MemPlace} (ht:P.underlying t = some .string)
   (h:DataW.trod enc P w base sp held m t cs = some (.lit (.string l),p)):cs = [.string (bs l)]:=by
 obtain ⟨z,e0,e1,_⟩:=DataW.trod_string ht h
 simp only [Prod.mk.injEq,DataW.lit.injEq,Lit.string.injEq] at e1
 rw [e0,e1.1,bs_list]
theorem lit_int {H:Type} {enc:TypeId × Value -> H} {P:Program} {w:World} {base:Nat} {sp:Nat -> Bool} {held:Bool} {m:Nat} {t:TypeId} {cs:List Value} {k k':IntKind} {n:Int} {p:List MemPlace} (ht:P.underlying t = some (.int k))
   (h:DataW.trod enc P w base sp held m t cs = some (.lit (.int k' n),p)):cs = [.int k n]:=by
 obtain ⟨z,e0,e1,_⟩:=DataW.trod_int ht h
 simp only [Prod.mk.injEq,DataW.lit.injEq,Lit.int.injEq] at e1
 rw [e0,e1.1.2]
theorem struct_fields {H:Type} {enc:TypeId × Value -> H} {P:Program} {w:World} {base:Nat} {sp:Nat -> Bool} {held:Bool} {m:Nat} {t:TypeId} {fs:Array Field} {cs:List Value} {ds:List (DataW H)} {p:List MemPlace} (ht:P.underlying t = some (.struct fs)) (hone:Go.Deep.oneCellFields P fs = true) (hC:P.cellsOf t = fs.size)
   (h:DataW.trod enc P w base sp held m t cs = some (.agg ds,p)):cs.length = fs.size /\ ∀ (i:Nat) (f:Go.Field) (d:DataW H) (v:Value),fs[i]? = some f -> ds[i]? = some d -> cs[i]? = some v -> ∃ n q,DataW.trod enc P w base sp held n f.type [v] = some (d,q):=by
 obtain ⟨xs,n,_,hx,hl,hlen,hf⟩:=DataW.trod_struct ht h
 simp only [Prod.mk.injEq,DataW.agg.injEq] at hx
 refine ⟨hl.trans hC,fun i f d v h1 h2 h3 => ?_⟩
 have h4:=hf i f h1
 obtain ⟨o0,k0⟩:=Go.Deep.hone_of hone i f h1
 rw [o0,k0] at h4
 obtain ⟨hi,h5⟩:=List.getElem?_eq_some_iff.1 h3
 have h6:(cs.drop i).take 1 = [v]:=by
   rw [List.drop_eq_getElem_cons hi,h5]; rfl
 rw [h6] at h4
 rw [hx.1,List.getElem?_map,Option.map_eq_some_iff] at h2
 obtain ⟨y,hy,hyd⟩:=h2
 refine ⟨n,y.2, ?_⟩
 rw [h4,hy,<- hyd]
theorem tab_cells {H:Type} {enc:TypeId × Value -> H} {P:Program} {w:World} {base:Nat} {sp:Nat -> Bool} {held:Bool} {fuel:Nat} {t e:TypeId} {n k:Nat} {cs:List Value} {α:Type} (rows:List α) (g:α -> DataW H) (f:α -> List Value) {p:List MemPlace}
   (ht:P.underlying t = some (.array n e)) (hk:P.cellsOf e = k)
   (hrow:∀ m cs p a,DataW.trod enc P w base sp held m e cs = some (g a,p) -> cs = f a)
   (h:DataW.trod enc P w base sp held fuel t cs = some (.agg (rows.map g),p)):∀ i a,rows[i]? = some a -> ∀ j v,(f a)[j]? = some v -> cs[i * k + j]? = some v:=by
 obtain ⟨xs,m,_,hx,hl,hxl,hel⟩:=DataW.trod_array ht h
 simp only [Prod.mk.injEq,DataW.agg.injEq] at hx
 intro i a hi j v hv
 have hil:i < rows.length:=(List.getElem?_eq_some_iff.1 hi).1
 have hxr:xs.length = rows.length:=by
   have:=congrArg List.length hx.1
   simpa using this.symm
 have h2:(xs.map (·.1))[i]? = some (g a):=by rw [<- hx.1,List.getElem?_map,hi]; rfl
 rw [List.getElem?_map,Option.map_eq_some_iff] at h2
 obtain ⟨y,hy,hya⟩:=h2
 have h3:=hel i (by omega)
 rw [hk,hy] at h3
 have h4:=hrow m _ y.2 a (by rw [h3,<- hya])
 have h5:((cs.drop (i * k)).take k)[j]? = some v:=by rw [h4]; exact hv
 rw [List.getElem?_take] at h5
 split at h5
 · rw [List.getElem?_drop] at h5
   exact h5
 · cases h5
theorem flatMap_at {α:Type} (f:α -> List Value) (k:Nat) (hk:∀ a,(f a).length = k):∀ (l:List α) (i:Nat) (a:α),l[i]? = some a -> ∀ j,j < k -> (l.flatMap f)[i * k + j]? = (f a)[j]? := by
 intro l
 induction l with
 | nil => intro i a h; simp at h
 | cons x l ih =>
   intro i a h j hj
   rw [List.flatMap_cons]
   cases i with
   | zero =>
     simp at h
     subst h
     rw [Nat.zero_mul,Nat.zero_add,List.getElem?_append_left (by rw [hk]; exact hj)]
   | succ i =>
     rw [List.getElem?_cons_succ] at h
     rw [List.getElem?_append_right (by rw [hk,Nat.succ_mul]; omega),hk,Nat.succ_mul,show i * k + k + j - k = i * k + j by omega]
     exact ih i a h j hj
theorem run_index_row {P:Program} {t e:TypeId} {n k:Nat} (ht:P.underlying t = some (.array n e)) (ha:∀ w,(isAgg e).run P w = .ok true w) (hz:∀ w,(Go.sizeOf e).run P w = .ok k w) (A:Array Value) (i:Nat) (hi:i < n) (c:Array Value)
   (h:A.extract (i * k) (i * k + k) = c) (W:World):(Instr.index t (.agg A) (.int .i64 (i:Int))).run P W = .ok (.agg c) W:=by
 subst h
 simp [Instr.index,asIntOf,run_underlying (P:=P) ht W,hz,part,ha,hi]
end Go.Proofs.YtddlaafpianjbaaGreatDoor
namespace Go
theorem wpList_load_run {P:Program} {ops:Array Oper} {w:World} {Q:Exit -> Act -> World -> Prop} {a:Act} {rest:List Oper} (d:Option Tmp) (ty:TypeId) (x:Operand) {t:TypeId} {ps:String} {af:Array Edge} (p v:Value) (hx:a.eval x = p)
   (hrun:(Instr.loadAt ty p).run P w = .ok v w) (h:wpList P ops Q rest (a.put d v) w):wpList P ops Q (⟨d,.load ty x,t,ps,af,none⟩ :: rest) a w :=
 wpList_plain rfl fun K hK => by
   unfold Oper.wp execOp
   simp only [hx,Sem.run_bind,hrun,Result.andThen_ok,Sem.run_pure]
   exact hK _ _ h
end Go
namespace Go.Proofs.YtddlaafpianjbaaGreatDoor
open Go.RowKit Go.Joins Go.Deep
namespace Table
def rows:List (List UInt8 × List UInt8 × List UInt8):=[([66,48],[65,84],[78,88]),([68,48],[65,84],[66,68,69,78]),([68,49],[69],[66,68,69,78]),([75,48],[65,84],[66,68,69,78]),([75,49],[65,84],[66,68,69,78]),([77,51],[84],[67,71,78,86]),([77,54],[65,84],[67,71,78,86]),([77,55],[72],[67,71,78,86]),([80,48],[65,84],[66,68,69,78]),([83,48],[69],[78,83,84,86]),([],[65,69,72,84],[66,67,68,69,71,78,83,84,86,88])]
def gT {H:Type} (r:List UInt8 × List UInt8 × List UInt8):DataW H:=.agg [.lit (.string r.1),.lit (.string r.2.1),.lit (.string r.2.2)]
def fT (r:List UInt8 × List UInt8 × List UInt8):List Value:=[.string (bs r.1),.string (bs r.2.1),.string (bs r.2.2)]
theorem rows_laid {H:Type}:(Rows.laid_claviger_table_lines (H:=H)) = .agg (rows.map gT):=rfl
theorem row_cells {H:Type} {enc:TypeId × Value -> H} {w:World} {base:Nat} {sp:Nat -> Bool} {held:Bool} {m:Nat} {cs:List Value} {p:List MemPlace} {r:List UInt8 × List UInt8 × List UInt8} (h:DataW.trod enc Tryz.prog w base sp held m 149 cs = some (gT r,p)):cs = fT r:=by
 obtain ⟨y0,y1,y2,n,hx,hl,h0,h1,h2⟩:=trod_struct3 Tryz.underlying149 h
 have c3:Tryz.prog.cellsOf 149 = 3:=by kernel_rfl
 have c1:Tryz.prog.cellsOf 9 = 1:=by kernel_rfl
 rw [c3] at hl
 match cs,hl with
 | [a,b,c],_ =>
   dsimp only at h0 h1 h2
   rw [c1] at h0 h1 h2
   simp only [gT,Prod.mk.injEq,DataW.agg.injEq,List.cons.injEq,and_true] at hx
   obtain ⟨⟨e0,e1,e2⟩,_⟩:=hx
   obtain ⟨y0,q0⟩:=y0
   obtain ⟨y1,q1⟩:=y1
   obtain ⟨y2,q2⟩:=y2
   subst e0 e1 e2
   have k0:=lit_str Tryz.underlying9 h0
   have k1:=lit_str Tryz.underlying9 h1
   have k2:=lit_str Tryz.underlying9 h2
   simp at k0 k1 k2
   rw [k0,k1,k2]; rfl
def Tabs (W:World):Prop:=∀ i r,rows[i]? = some r -> ∀ j v,(fT r)[j]? = some v -> W.cell? ⟨1,i * 3 + j,none⟩ = some v
theorem Tabs.lt {W:World} (h:Tabs W):1 < W.heap.size:=block_lt_of_cell (h 0 _ rfl 0 _ rfl)
instance:Kp Tabs:=⟨fun h hb i r hi j v hv => (hb.cell (p:=⟨1,i * 3 + j,none⟩) h.lt).trans (h i r hi j v hv)⟩
theorem tabs_at {W : World} {H : Type} {enc : TypeId × Value -> H} {base : Nat} {sp : Nat -> Bool} {held : Bool} {fuel : Nat} {g : Nat} {t : TypeId} {cs : Array Value} {p : List MemPlace} (hg : Tryz.prog.globalNamed "claviger/table.lines" = some g) (ht : (Tryz.prog.globals[g]?).map (·.type) = some t)
   (hv : W.var? Tryz.prog "claviger/table.lines" = some cs) (hd : DataW.trod enc Tryz.prog W base sp held fuel t cs.toList = some (Rows.laid_claviger_table_lines, p)) : Tabs W := by
 have gN : Tryz.prog.globalNamed "claviger/table.lines" = some 1 := by kernel_rfl
 have tN:(Tryz.prog.globals[1]?).map (·.type) = some 181:=by kernel_rfl
 obtain rfl:=Option.some.inj (gN.symm.trans hg)
 obtain rfl:=Option.some.inj (tN.symm.trans ht)
 rw [rows_laid] at hd
 have hc:=tab_cells (k:=3) rows gT fT Tryz.underlying181 (by kernel_rfl) (fun m cs p a h => row_cells h) hd
 intro i r hi j v hj
 have h9:=World.var?_cell hg hv (i * 3 + j)
 rw [<- Array.getElem?_toList,hc i r hi j v hj] at h9
 exact h9
def cells:Array Value:=(rows.flatMap fT).toArray
theorem load_all {W:World} (h:Tabs W):(Instr.loadAt 181 (.pointer (some ⟨1,0,none⟩))).run Tryz.prog W = .ok (.agg cells) W:=by
 refine run_loadAt_mid (P:=Tryz.prog) W 1 0 181 (rows.flatMap fT) _ (fun q v hv => ?_) Tryz.underlying181 rfl (by kernel_rfl)
 have h9:∀ q,q < 33 -> ∃ r,rows[q / 3]? = some r /\ (rows.flatMap fT)[q]? = (fT r)[q % 3]? := by
   intro q hq
   have hh:∀ q:Fin 33,∃ r,rows[q.1 / 3]? = some r /\ (rows.flatMap fT)[q.1]? = (fT r)[q.1 % 3]? := by
     intro ⟨q,hq⟩
     have hr:q / 3 < rows.length:=by show q / 3 < 11; omega
     refine ⟨rows[q / 3],List.getElem?_eq_getElem hr, ?_⟩
     have:=flatMap_at fT 3 (fun _ => rfl) rows (q / 3) _ (List.getElem?_eq_getElem hr) (q % 3) (Nat.mod_lt _ (by decide))
     rw [show q / 3 * 3 + q % 3 = q by omega] at this
     exact this
   exact hh ⟨q,hq⟩
 have hq:q < 33:=(List.getElem?_eq_some_iff.1 hv).1
 obtain ⟨r,hr,hr2⟩:=h9 q hq
 rw [hr2] at hv
 have:=h _ r hr _ _ hv
 rw [show q / 3 * 3 + q % 3 = q by omega] at this
 rw [Nat.zero_add]
 exact this
theorem index_at (i:Nat) (r:List UInt8 × List UInt8 × List UInt8) (h:rows[i]? = some r) (W:World):(Instr.index 181 (.agg cells) (.int .i64 (i:Int))).run Tryz.prog W = .ok (.agg #[.string (bs r.1),.string (bs r.2.1),.string (bs r.2.2)]) W:=by
 have hi:i < 11:=(List.getElem?_eq_some_iff.1 h).1
 refine run_index_row (n:=11) (k:=3) Tryz.underlying181 (fun w => by kernel_rfl) (fun w => by kernel_rfl) cells i hi _ ?_ W
 have hall:∀ i:Fin 11,∀ r,rows[i.1]? = some r -> cells.extract (i.1 * 3) (i.1 * 3 + 3) = #[.string (bs r.1),.string (bs r.2.1),.string (bs r.2.2)]:=by
   intro i r hr
   match i with
   | 0 | 1 | 2 | 3 | 4 | 5 | 6 | 7 | 8 | 9 | 10 => cases hr; rfl
 exact hall ⟨i,hi⟩ r h
end Table
end Go.Proofs.YtddlaafpianjbaaGreatDoor
namespace Go.Proofs.YtddlaafpianjbaaGreatDoor
open Go.RowKit Go.Joins Go.Deep
namespace Kind
abbrev Row:=List UInt8 × Int × List UInt8 × Int × List UInt8
def rows:List Row:=[([65,69,83,45,49,50,56],16,[65],0,[50,46,49,54,46,56,52,48,46,49,46,49,48,49,46,51,46,52,46,49,46,49]),([65,69,83,45,49,57,50],24,[65],0,[50,46,49,54,46,56,52,48,46,49,46,49,48,49,46,51,46,52,46,49,46,50,49]),([65,69,83,45,50,53,54],32,[65],0,[50,46,49,54,46,56,52,48,46,49,46,49,48,49,46,51,46,52,46,49,46,52,49]),([84,68,69,83,45,50],16,[84],0,[49,46,50,46,56,52,48,46,49,49,51,53,52,57,46,51,46,55]),([84,68,69,83,45,51],24,[84],0,[49,46,50,46,56,52,48,46,49,49,51,53,52,57,46,51,46,55]),([72,77,65,67,45,83,72,65,50,53,54],32,[72],0,[49,46,50,46,56,52,48,46,49,49,51,53,52,57,46,50,46,57]),([72,77,65,67,45,83,72,65,53,49,50],64,[72],0,[49,46,50,46,56,52,48,46,49,49,51,53,52,57,46,50,46,49,49]),([69,67,45,80,50,50,52],28,[69],1,[49,46,50,46,56,52,48,46,49,48,48,52,53,46,50,46,49]),([69,67,45,80,50,53,54],32,[69],2,[49,46,50,46,56,52,48,46,49,48,48,52,53,46,50,46,49]),([69,67,45,80,51,56,52],48,[69],3,[49,46,50,46,56,52,48,46,49,48,48,52,53,46,50,46,49]),([69,67,45,80,53,50,49],66,[69],4,[49,46,50,46,56,52,48,46,49,48,48,52,53,46,50,46,49])]
def noneR:Row:=([],0,[],0,[])
def gT {H:Type} (r:Row):DataW H:=.agg [.lit (.string r.1),.lit (.int .i64 r.2.1),.lit (.string r.2.2.1),.lit (.int .i64 r.2.2.2.1),.lit (.string r.2.2.2.2)]
def fT (r:Row):List Value:=[.string (bs r.1),.int .i64 r.2.1,.string (bs r.2.2.1),.int .i64 r.2.2.2.1,.string (bs r.2.2.2.2)]
theorem rows_laid {H:Type}:(Rows.laid_claviger_kind_lines (H:=H)) = .agg (rows.map gT):=rfl
theorem row_cells {H:Type} {enc:TypeId × Value -> H} {w:World} {base:Nat} {sp:Nat -> Bool} {held:Bool} {m:Nat} {cs:List Value} {p:List MemPlace} {r:Row} (h:DataW.trod enc Tryz.prog w base sp held m 104 cs = some (gT r,p)):cs = fT r:=by
 obtain ⟨hl,hf⟩:=struct_fields Tryz.underlying104 (by kernel_rfl) (by kernel_rfl) h
 match cs,hl with
 | [v0,v1,v2,v3,v4],_ =>
   obtain ⟨_,_,h0⟩:=hf 0 _ _ v0 rfl rfl rfl
   obtain ⟨_,_,h1⟩:=hf 1 _ _ v1 rfl rfl rfl
   obtain ⟨_,_,h2⟩:=hf 2 _ _ v2 rfl rfl rfl
   obtain ⟨_,_,h3⟩:=hf 3 _ _ v3 rfl rfl rfl
   obtain ⟨_,_,h4⟩:=hf 4 _ _ v4 rfl rfl rfl
   have k0:=lit_str Tryz.underlying9 h0
   have k1:=lit_int Tryz.underlying3 h1
   have k2:=lit_str Tryz.underlying9 h2
   have k3:=lit_int Tryz.underlying3 h3
   have k4:=lit_str Tryz.underlying9 h4
   simp only [List.cons.injEq,and_true] at k0 k1 k2 k3 k4
   rw [k0,k1,k2,k3,k4]; rfl
def Tabs (W:World):Prop:=∀ i r,rows[i]? = some r -> ∀ j v,(fT r)[j]? = some v -> W.cell? ⟨0,i * 5 + j,none⟩ = some v
theorem Tabs.lt {W:World} (h:Tabs W):0 < W.heap.size:=block_lt_of_cell (h 0 _ rfl 0 _ rfl)
instance:Kp Tabs:=⟨fun h hb i r hi j v hv => (hb.cell (p:=⟨0,i * 5 + j,none⟩) h.lt).trans (h i r hi j v hv)⟩
theorem tabs_at {W : World} {H : Type} {enc : TypeId × Value -> H} {base : Nat} {sp : Nat -> Bool} {held : Bool} {fuel : Nat} {g : Nat} {t : TypeId} {cs : Array Value} {p : List MemPlace} (hg : Tryz.prog.globalNamed "claviger/kind.lines" = some g) (ht : (Tryz.prog.globals[g]?).map (·.type) = some t)
   (hv : W.var? Tryz.prog "claviger/kind.lines" = some cs) (hd : DataW.trod enc Tryz.prog W base sp held fuel t cs.toList = some (Rows.laid_claviger_kind_lines, p)) : Tabs W := by
 have gN : Tryz.prog.globalNamed "claviger/kind.lines" = some 0 := by kernel_rfl
 have tN:(Tryz.prog.globals[0]?).map (·.type) = some 147:=by kernel_rfl
 obtain rfl:=Option.some.inj (gN.symm.trans hg)
 obtain rfl:=Option.some.inj (tN.symm.trans ht)
 rw [rows_laid] at hd
 have hc:=tab_cells (k:=5) rows gT fT Tryz.underlying147 (by kernel_rfl) (fun m cs p a h => row_cells h) hd
 intro i r hi j v hj
 have h9:=World.var?_cell hg hv (i * 5 + j)
 rw [<- Array.getElem?_toList,hc i r hi j v hj] at h9
 exact h9
def cells:Array Value:=(rows.flatMap fT).toArray
theorem load_all {W:World} (h:Tabs W):(Instr.loadAt 147 (.pointer (some ⟨0,0,none⟩))).run Tryz.prog W = .ok (.agg cells) W:=by
 refine run_loadAt_mid (P:=Tryz.prog) W 0 0 147 (rows.flatMap fT) _ (fun q v hv => ?_) Tryz.underlying147 rfl (by kernel_rfl)
 have hq:q < 55:=(List.getElem?_eq_some_iff.1 hv).1
 have hr:q / 5 < rows.length:=by show q / 5 < 11; omega
 have h2:=flatMap_at fT 5 (fun _ => rfl) rows (q / 5) _ (List.getElem?_eq_getElem hr) (q % 5) (Nat.mod_lt _ (by decide))
 rw [show q / 5 * 5 + q % 5 = q by omega] at h2
 rw [h2] at hv
 have:=h _ _ (List.getElem?_eq_getElem hr) _ _ hv
 rw [show q / 5 * 5 + q % 5 = q by omega] at this
 rw [Nat.zero_add]
 exact this
theorem index_at (i:Nat) (r:Row) (h:rows[i]? = some r) (W:World):(Instr.index 147 (.agg cells) (.int .i64 (i:Int))).run Tryz.prog W = .ok (.agg #[.string (bs r.1),.int .i64 r.2.1,.string (bs r.2.2.1),.int .i64 r.2.2.2.1,.string (bs r.2.2.2.2)]) W:=by
 have hi:i < 11:=(List.getElem?_eq_some_iff.1 h).1
 refine run_index_row (n:=11) (k:=5) Tryz.underlying147 (fun w => by kernel_rfl) (fun w => by kernel_rfl) cells i hi _ ?_ W
 have hall:∀ i:Fin 11,∀ r:Row,rows[i.1]? = some r -> cells.extract (i.1 * 5) (i.1 * 5 + 5) = #[.string (bs r.1),.int .i64 r.2.1,.string (bs r.2.2.1),.int .i64 r.2.2.2.1,.string (bs r.2.2.2.2)]:=by
   intro i r hr
   match i with
   | 0 | 1 | 2 | 3 | 4 | 5 | 6 | 7 | 8 | 9 | 10 => cases hr; rfl
 exact hall ⟨i,hi⟩ r h
end Kind
end Go.Proofs.YtddlaafpianjbaaGreatDoor
namespace Go.Proofs.YtddlaafpianjbaaGreatDoor
open Go.RowKit
namespace Kind
def sizeOf (r:Row):Int:=r.2.1
def mostF (l:List UInt8) (k:Nat):Int:=((rows.take k).filter (fun r => r.2.2.1 == l)).foldl (fun m r => max m r.2.1) 0
def mostN (l:List UInt8):Int:=mostF l 11
theorem mostF_step (l:List UInt8) (k:Nat) (r:Row) (h:rows[k]? = some r):mostF l (k + 1) = if r.2.2.1 == l then max (mostF l k) r.2.1 else mostF l k:=by
 unfold mostF
 obtain ⟨h3,h4⟩:=List.getElem?_eq_some_iff.1 h
 rw [List.take_succ_eq_append_getElem h3,h4,List.filter_append,List.foldl_append]
 cases hq:(r.2.2.1 == l) with
 | true => rw [if_pos rfl,List.filter_cons_of_pos (by exact hq)]; rfl
 | false => rw [if_neg (by decide),List.filter_cons_of_neg (by rw [hq]; decide)]; rfl
theorem row_bounds (k:Nat) (r:Row) (h:rows[k]? = some r):0 <= r.2.1 /\ r.2.1 <= 100:=by
 have hall:∀ r ∈ rows,0 <= r.2.1 /\ r.2.1 <= 100:=by decide +kernel
 exact hall r (List.mem_of_getElem? h)
set_option maxHeartbeats 4000000 in
theorem most_k (l:ByteArray) (X:Int) (hX:X = mostN l.data.toList):KMk Tabs 84 #[.string l] (.int .i64 X):=by
 intro w hT
 have hl:=load_all hT
 obtain ⟨D,hD⟩:∃ D,D = cells:=⟨_,rfl⟩
 rw [<- hD] at hl
 have HX:Hid (∀ (i:Nat) r,rows[i]? = some r -> ∀ W,(Instr.index 147 (.agg D) (.int .i64 (i:Int))).run Tryz.prog W = .ok (.agg #[.string (bs r.1),.int .i64 r.2.1,.string (bs r.2.2.1),.int .i64 r.2.2.2.1,.string (bs r.2.2.2.2)]) W):=lH (fun i r h W => by rw [hD]; exact index_at i r h W)
 have Hl:=lH hl
 have HL:=lH hX
 clear hT hD hl hX
 go_enter Tryz.func84,Tryz.ntmps84
 go_wp2_with ((with_reducible refine wpList_load_run _ _ _ _ (.agg D) ?_ Hl.out ?_) <;> try rfl)
 go_loopw [3,7] (fun m i wr => ∃ k:Nat,k <= 11 /\ i = .int .i64 (k:Int) /\ ∃ x:Int,m = .int .i64 x /\ 0 <= x /\ x <= 100 /\ Hid (x = mostF l.data.toList k) /\ Hid (Since w wr)) (fun _ i _ => 11 - (intOf i).toNat)
 case atStart => exact ⟨0,by omega,rfl,0,rfl,by omega,by omega,lH rfl,lH (Since.refl w)⟩
 case round =>
   obtain ⟨k,hk,rfl,x,rfl,hx0,hx1,HM,HS⟩:=hrel
   by_cases hlt2:k < 11
   · obtain ⟨r,hr⟩:∃ r,rows[k]? = some r:=⟨rows[k]'hlt2,List.getElem?_eq_getElem _⟩
     have hix:=HX.out k r hr
     have hst:=mostF_step l.data.toList k r hr
     obtain ⟨hb0,hb1⟩:=row_bounds k r hr
     obtain ⟨q,hq⟩:∃ q,(r.2.2.1 == l.data.toList) = q:=⟨_,rfl⟩
     rw [hq,<- HM.out] at hst
     obtain ⟨z,hz⟩:∃ z,z = r.2.1:=⟨_,rfl⟩
     obtain ⟨a,ha⟩:∃ a,a = bs r.2.2.1:=⟨_,rfl⟩
     have t1:(a.toList == l.toList) = q:=by rw [toList_d,toList_d,ha]; exact hq
     rw [<- hz] at hix hst hb0 hb1
     rw [<- ha] at hix
     generalize bs r.1 = g0 at hix
     generalize r.2.2.2.1 = g1 at hix
     generalize bs r.2.2.2.2 = g2 at hix
     clear hr hq hz ha
     cases q
     · rw [if_neg (by decide)] at hst
       have HM2:=lH hst.symm
       clear hst
       go_wp2_with fail
       go_roundw
       case rel => exact ⟨k + 1,by omega,by go_num,x,rfl,hx0,hx1,HM2,lH (HS.out.alloc _)⟩
       case measure => simp [intOf]; omega
     · rw [if_pos rfl] at hst
       have HM2:=lH hst.symm
       clear hst
       by_cases hxz:x <= z
       · have e:max x z = z:=by omega
         rw [e] at HM2
         go_wp2_with fail
         go_roundw
         case rel => exact ⟨k + 1,by omega,by go_num,z,by first | rfl | (congr 1; omega),hb0,hb1,HM2,lH (HS.out.alloc _)⟩
         case measure => simp [intOf]; omega
       · have e:max x z = x:=by omega
         rw [e] at HM2
         go_wp2_with fail
         go_roundw
         case rel => exact ⟨k + 1,by omega,by go_num,x,by first | rfl | (congr 1; omega),hx0,hx1,HM2,lH (HS.out.alloc _)⟩
         case measure => simp [intOf]; omega
   · obtain rfl:k = 11:=by omega
     obtain rfl:X = x:=by rw [HL.out,HM.out]; rfl
     go_wp2_with fail
     go_ret
     exact ⟨rfl,HS.out⟩
theorem rletter_1:Ret 17 #[.int .i64 1] (.string ⟨#[65]⟩):=by
 intro w
 go_enter Tryz.func17,Tryz.ntmps17
 go_wp2_with fail
 go_ret
 exact ⟨rfl,rfl⟩
theorem rletter_2:Ret 17 #[.int .i64 2] (.string ⟨#[65]⟩):=by
 intro w
 go_enter Tryz.func17,Tryz.ntmps17
 go_wp2_with fail
 go_ret
 exact ⟨rfl,rfl⟩
theorem rletter_3:Ret 17 #[.int .i64 3] (.string ⟨#[65]⟩):=by
 intro w
 go_enter Tryz.func17,Tryz.ntmps17
 go_wp2_with fail
 go_ret
 exact ⟨rfl,rfl⟩
theorem rletter_4:Ret 17 #[.int .i64 4] (.string ⟨#[84]⟩):=by
 intro w
 go_enter Tryz.func17,Tryz.ntmps17
 go_wp2_with fail
 go_ret
 exact ⟨rfl,rfl⟩
theorem rletter_5:Ret 17 #[.int .i64 5] (.string ⟨#[84]⟩):=by
 intro w
 go_enter Tryz.func17,Tryz.ntmps17
 go_wp2_with fail
 go_ret
 exact ⟨rfl,rfl⟩
theorem rletter_6:Ret 17 #[.int .i64 6] (.string ⟨#[72]⟩):=by
 intro w
 go_enter Tryz.func17,Tryz.ntmps17
 go_wp2_with fail
 go_ret
 exact ⟨rfl,rfl⟩
theorem rletter_7:Ret 17 #[.int .i64 7] (.string ⟨#[72]⟩):=by
 intro w
 go_enter Tryz.func17,Tryz.ntmps17
 go_wp2_with fail
 go_ret
 exact ⟨rfl,rfl⟩
theorem rletter_8:Ret 17 #[.int .i64 8] (.string ⟨#[69]⟩):=by
 intro w
 go_enter Tryz.func17,Tryz.ntmps17
 go_wp2_with fail
 go_ret
 exact ⟨rfl,rfl⟩
theorem rletter_9:Ret 17 #[.int .i64 9] (.string ⟨#[69]⟩):=by
 intro w
 go_enter Tryz.func17,Tryz.ntmps17
 go_wp2_with fail
 go_ret
 exact ⟨rfl,rfl⟩
theorem rletter_10:Ret 17 #[.int .i64 10] (.string ⟨#[69]⟩):=by
 intro w
 go_enter Tryz.func17,Tryz.ntmps17
 go_wp2_with fail
 go_ret
 exact ⟨rfl,rfl⟩
theorem rletter_11:Ret 17 #[.int .i64 11] (.string ⟨#[69]⟩):=by
 intro w
 go_enter Tryz.func17,Tryz.ntmps17
 go_wp2_with fail
 go_ret
 exact ⟨rfl,rfl⟩
theorem rsize_1:Ret 50 #[.int .i64 1] (.int .i64 16):=by
 intro w
 go_enter Tryz.func50,Tryz.ntmps50
 go_wp2_with fail
 go_ret
 exact ⟨rfl,rfl⟩
theorem rsize_2:Ret 50 #[.int .i64 2] (.int .i64 24):=by
 intro w
 go_enter Tryz.func50,Tryz.ntmps50
 go_wp2_with fail
 go_ret
 exact ⟨rfl,rfl⟩
theorem rsize_3:Ret 50 #[.int .i64 3] (.int .i64 32):=by
 intro w
 go_enter Tryz.func50,Tryz.ntmps50
 go_wp2_with fail
 go_ret
 exact ⟨rfl,rfl⟩
theorem rsize_4:Ret 50 #[.int .i64 4] (.int .i64 16):=by
 intro w
 go_enter Tryz.func50,Tryz.ntmps50
 go_wp2_with fail
 go_ret
 exact ⟨rfl,rfl⟩
theorem rsize_5:Ret 50 #[.int .i64 5] (.int .i64 24):=by
 intro w
 go_enter Tryz.func50,Tryz.ntmps50
 go_wp2_with fail
 go_ret
 exact ⟨rfl,rfl⟩
theorem rsize_6:Ret 50 #[.int .i64 6] (.int .i64 32):=by
 intro w
 go_enter Tryz.func50,Tryz.ntmps50
 go_wp2_with fail
 go_ret
 exact ⟨rfl,rfl⟩
theorem rsize_7:Ret 50 #[.int .i64 7] (.int .i64 64):=by
 intro w
 go_enter Tryz.func50,Tryz.ntmps50
 go_wp2_with fail
 go_ret
 exact ⟨rfl,rfl⟩
theorem rsize_8:Ret 50 #[.int .i64 8] (.int .i64 28):=by
 intro w
 go_enter Tryz.func50,Tryz.ntmps50
 go_wp2_with fail
 go_ret
 exact ⟨rfl,rfl⟩
theorem rsize_9:Ret 50 #[.int .i64 9] (.int .i64 32):=by
 intro w
 go_enter Tryz.func50,Tryz.ntmps50
 go_wp2_with fail
 go_ret
 exact ⟨rfl,rfl⟩
theorem rsize_10:Ret 50 #[.int .i64 10] (.int .i64 48):=by
 intro w
 go_enter Tryz.func50,Tryz.ntmps50
 go_wp2_with fail
 go_ret
 exact ⟨rfl,rfl⟩
theorem rsize_11:Ret 50 #[.int .i64 11] (.int .i64 66):=by
 intro w
 go_enter Tryz.func50,Tryz.ntmps50
 go_wp2_with fail
 go_ret
 exact ⟨rfl,rfl⟩
theorem rletter_no (k:Int) (h:k < 1 ∨ 11 < k):Ret 17 #[.int .i64 k] (.string ⟨#[]⟩):=by
 intro w
 have a1:(k == 1) = false:=by rw [beq_eq_false_iff_ne]; omega
 have a2:(k == 2) = false:=by rw [beq_eq_false_iff_ne]; omega
 have a3:(k == 3) = false:=by rw [beq_eq_false_iff_ne]; omega
 have a4:(k == 4) = false:=by rw [beq_eq_false_iff_ne]; omega
 have a5:(k == 5) = false:=by rw [beq_eq_false_iff_ne]; omega
 have a6:(k == 6) = false:=by rw [beq_eq_false_iff_ne]; omega
 have a7:(k == 7) = false:=by rw [beq_eq_false_iff_ne]; omega
 have a8:(k == 8) = false:=by rw [beq_eq_false_iff_ne]; omega
 have a9:(k == 9) = false:=by rw [beq_eq_false_iff_ne]; omega
 have a10:(k == 10) = false:=by rw [beq_eq_false_iff_ne]; omega
 have a11:(k == 11) = false:=by rw [beq_eq_false_iff_ne]; omega
 by_cases h1:k < 1
 · clear h
   go_enter Tryz.func17,Tryz.ntmps17
   go_wp2_with fail
   go_ret
   exact ⟨rfl,rfl⟩
 · have h2:11 < k:=by omega
   clear h
   go_enter Tryz.func17,Tryz.ntmps17
   go_wp2_with fail
   go_ret
   exact ⟨rfl,rfl⟩
theorem rsize_no (k:Int) (h:k < 1 ∨ 11 < k):Ret 50 #[.int .i64 k] (.int .i64 0):=by
 intro w
 have a1:(k == 1) = false:=by rw [beq_eq_false_iff_ne]; omega
 have a2:(k == 2) = false:=by rw [beq_eq_false_iff_ne]; omega
 have a3:(k == 3) = false:=by rw [beq_eq_false_iff_ne]; omega
 have a4:(k == 4) = false:=by rw [beq_eq_false_iff_ne]; omega
 have a5:(k == 5) = false:=by rw [beq_eq_false_iff_ne]; omega
 have a6:(k == 6) = false:=by rw [beq_eq_false_iff_ne]; omega
 have a7:(k == 7) = false:=by rw [beq_eq_false_iff_ne]; omega
 have a8:(k == 8) = false:=by rw [beq_eq_false_iff_ne]; omega
 have a9:(k == 9) = false:=by rw [beq_eq_false_iff_ne]; omega
 have a10:(k == 10) = false:=by rw [beq_eq_false_iff_ne]; omega
 have a11:(k == 11) = false:=by rw [beq_eq_false_iff_ne]; omega
 by_cases h1:k < 1
 · clear h
   go_enter Tryz.func50,Tryz.ntmps50
   go_wp2_with fail
   go_ret
   exact ⟨rfl,rfl⟩
 · have h2:11 < k:=by omega
   clear h
   go_enter Tryz.func50,Tryz.ntmps50
   go_wp2_with fail
   go_ret
   exact ⟨rfl,rfl⟩
theorem rletter_at (i:Nat) (r:Row) (h:rows[i]? = some r):Ret 17 #[.int .i64 ((i:Int) + 1)] (.string (bs r.2.2.1)):=by
 have hi:i < 11:=(List.getElem?_eq_some_iff.1 h).1
 match i,hi,h with
 | 0,_,h => cases h; exact rletter_1
 | 1,_,h => cases h; exact rletter_2
 | 2,_,h => cases h; exact rletter_3
 | 3,_,h => cases h; exact rletter_4
 | 4,_,h => cases h; exact rletter_5
 | 5,_,h => cases h; exact rletter_6
 | 6,_,h => cases h; exact rletter_7
 | 7,_,h => cases h; exact rletter_8
 | 8,_,h => cases h; exact rletter_9
 | 9,_,h => cases h; exact rletter_10
 | 10,_,h => cases h; exact rletter_11
theorem rsize_at (i:Nat) (r:Row) (h:rows[i]? = some r):Ret 50 #[.int .i64 ((i:Int) + 1)] (.int .i64 r.2.1):=by
 have hi:i < 11:=(List.getElem?_eq_some_iff.1 h).1
 match i,hi,h with
 | 0,_,h => cases h; exact rsize_1
 | 1,_,h => cases h; exact rsize_2
 | 2,_,h => cases h; exact rsize_3
 | 3,_,h => cases h; exact rsize_4
 | 4,_,h => cases h; exact rsize_5
 | 5,_,h => cases h; exact rsize_6
 | 6,_,h => cases h; exact rsize_7
 | 7,_,h => cases h; exact rsize_8
 | 8,_,h => cases h; exact rsize_9
 | 9,_,h => cases h; exact rsize_10
 | 10,_,h => cases h; exact rsize_11
set_option maxHeartbeats 4000000 in
theorem rmost_ret (l:ByteArray) (X:Int) (hX:X = mostN l.data.toList):Ret 63 #[.string l] (.int .i64 X):=by
 intro w
 have HL:=lH hX
 clear hX
 go_enter Tryz.func63,Tryz.ntmps63
 go_wp2_with fail
 go_loop [3,4] (fun m i => ∃ k:Nat,k <= 11 /\ i = .int .i64 ((k:Int) + 1) /\ ∃ x:Int,m = .int .i64 x /\ 0 <= x /\ x <= 100 /\ Hid (x = mostF l.data.toList k)) (fun _ i => 12 - (intOf i).toNat)
 case atStart => exact ⟨0,by omega,rfl,0,rfl,by omega,by omega,lH rfl⟩
 case round =>
   obtain ⟨k,hk,rfl,x,rfl,hx0,hx1,HM⟩:=hrel
   by_cases hlt2:k < 11
   · obtain ⟨r,hr⟩:∃ r,rows[k]? = some r:=⟨rows[k]'hlt2,List.getElem?_eq_getElem _⟩
     have hst:=mostF_step l.data.toList k r hr
     obtain ⟨hb0,hb1⟩:=row_bounds k r hr
     obtain ⟨q,hq⟩:∃ q,(r.2.2.1 == l.data.toList) = q:=⟨_,rfl⟩
     rw [hq,<- HM.out] at hst
     have c1:=rletter_at k r hr
     have c2:=rsize_at k r hr
     obtain ⟨z,hz⟩:∃ z,z = r.2.1:=⟨_,rfl⟩
     obtain ⟨a,ha⟩:∃ a,a = bs r.2.2.1:=⟨_,rfl⟩
     have t1:(a.toList == l.toList) = q:=by rw [toList_d,toList_d,ha]; exact hq
     rw [<- hz] at hst hb0 hb1 c2
     rw [<- ha] at c1
     clear hr hq hz ha
     cases q
     · rw [if_neg (by decide)] at hst
       have HM2:=lH hst.symm
       clear hst
       go_wp2_with fail
       repeat ((first | with_reducible refine c1.calls ?_ | with_reducible refine c2.calls ?_); try go_wp2_with fail)
       go_round
       case rel => exact ⟨k + 1,by omega,by go_num,x,rfl,hx0,hx1,HM2⟩
       case measure => simp [intOf]; omega
     · rw [if_pos rfl] at hst
       have HM2:=lH hst.symm
       clear hst
       by_cases hxz:x < z
       · have e:max x z = z:=by omega
         have t2:decide (x < z) = true:=decide_eq_true hxz
         rw [e] at HM2
         go_wp2_with fail
         repeat ((first | with_reducible refine c1.calls ?_ | with_reducible refine c2.calls ?_); try go_wp2_with fail)
         go_round
         case rel => exact ⟨k + 1,by omega,by go_num,z,rfl,hb0,hb1,HM2⟩
         case measure => simp [intOf]; omega
       · have e:max x z = x:=by omega
         have t2:decide (x < z) = false:=decide_eq_false hxz
         rw [e] at HM2
         go_wp2_with fail
         repeat ((first | with_reducible refine c1.calls ?_ | with_reducible refine c2.calls ?_); try go_wp2_with fail)
         go_round
         case rel => exact ⟨k + 1,by omega,by go_num,x,rfl,hx0,hx1,HM2⟩
         case measure => simp [intOf]; omega
   · obtain rfl:k = 11:=by omega
     obtain rfl:X = x:=by rw [HL.out,HM.out]; rfl
     go_wp2_with fail
     go_ret
     exact ⟨rfl,rfl⟩
end Kind
end Go.Proofs.YtddlaafpianjbaaGreatDoor
namespace Go.Proofs.YtddlaafpianjbaaGreatDoor
open Go.RowKit Go.Joins Go.Deep
namespace Curve
abbrev Row:=List UInt8 × Int × List UInt8 × List UInt8
def rows:List Row:=[([80,45,50,50,52],28,[49,46,51,46,49,51,50,46,48,46,51,51],[70,70,70,70,70,70,70,70,70,70,70,70,70,70,70,70,70,70,70,70,70,70,70,70,70,70,70,70,49,54,65,50,69,48,66,56,70,48,51,69,49,51,68,68,50,57,52,53,53,67,53,67,50,65,51,68]),([80,45,50,53,54],32,[49,46,50,46,56,52,48,46,49,48,48,52,53,46,51,46,49,46,55],[70,70,70,70,70,70,70,70,48,48,48,48,48,48,48,48,70,70,70,70,70,70,70,70,70,70,70,70,70,70,70,70,66,67,69,54,70,65,65,68,65,55,49,55,57,69,56,52,70,51,66,57,67,65,67,50,70,67,54,51,50,53,53,49]),([80,45,51,56,52],48,[49,46,51,46,49,51,50,46,48,46,51,52],[70,70,70,70,70,70,70,70,70,70,70,70,70,70,70,70,70,70,70,70,70,70,70,70,70,70,70,70,70,70,70,70,70,70,70,70,70,70,70,70,70,70,70,70,70,70,70,70,67,55,54,51,52,68,56,49,70,52,51,55,50,68,68,70,53,56,49,65,48,68,66,50,52,56,66,48,65,55,55,65,69,67,69,67,49,57,54,65,67,67,67,53,50,57,55,51]),([80,45,53,50,49],66,[49,46,51,46,49,51,50,46,48,46,51,53],[48,49,70,70,70,70,70,70,70,70,70,70,70,70,70,70,70,70,70,70,70,70,70,70,70,70,70,70,70,70,70,70,70,70,70,70,70,70,70,70,70,70,70,70,70,70,70,70,70,70,70,70,70,70,70,70,70,70,70,70,70,70,70,70,70,70,70,65,53,49,56,54,56,55,56,51,66,70,50,70,57,54,54,66,55,70,67,67,48,49,52,56,70,55,48,57,65,53,68,48,51,66,66,53,67,57,66,56,56,57,57,67,52,55,65,69,66,66,54,70,66,55,49,69,57,49,51,56,54,52,48,57])]
def noneR:Row:=([],0,[],[])
def gT {H:Type} (r:Row):DataW H:=.agg [.lit (.string r.1),.lit (.int .i64 r.2.1),.lit (.string r.2.2.1),.lit (.string r.2.2.2)]
def fT (r:Row):List Value:=[.string (bs r.1),.int .i64 r.2.1,.string (bs r.2.2.1),.string (bs r.2.2.2)]
theorem rows_laid {H:Type}:(Rows.laid_claviger_curve_lines (H:=H)) = .agg (rows.map gT):=rfl
theorem row_cells {H:Type} {enc:TypeId × Value -> H} {w:World} {base:Nat} {sp:Nat -> Bool} {held:Bool} {m:Nat} {cs:List Value} {p:List MemPlace} {r:Row} (h:DataW.trod enc Tryz.prog w base sp held m 185 cs = some (gT r,p)):cs = fT r:=by
 obtain ⟨hl,hf⟩:=struct_fields Tryz.underlying185 (by kernel_rfl) (by kernel_rfl) h
 match cs,hl with
 | [v0,v1,v2,v3],_ =>
   obtain ⟨_,_,h0⟩:=hf 0 _ _ v0 rfl rfl rfl
   obtain ⟨_,_,h1⟩:=hf 1 _ _ v1 rfl rfl rfl
   obtain ⟨_,_,h2⟩:=hf 2 _ _ v2 rfl rfl rfl
   obtain ⟨_,_,h3⟩:=hf 3 _ _ v3 rfl rfl rfl
   have k0:=lit_str Tryz.underlying9 h0
   have k1:=lit_int Tryz.underlying3 h1
   have k2:=lit_str Tryz.underlying9 h2
   have k3:=lit_str Tryz.underlying9 h3
   simp only [List.cons.injEq,and_true] at k0 k1 k2 k3
   rw [k0,k1,k2,k3]; rfl
def Tabs (W:World):Prop:=∀ i r,rows[i]? = some r -> ∀ j v,(fT r)[j]? = some v -> W.cell? ⟨2,i * 4 + j,none⟩ = some v
theorem Tabs.lt {W:World} (h:Tabs W):2 < W.heap.size:=block_lt_of_cell (h 0 _ rfl 0 _ rfl)
instance:Kp Tabs:=⟨fun h hb i r hi j v hv => (hb.cell (p:=⟨2,i * 4 + j,none⟩) h.lt).trans (h i r hi j v hv)⟩
theorem tabs_at {W : World} {H : Type} {enc : TypeId × Value -> H} {base : Nat} {sp : Nat -> Bool} {held : Bool} {fuel : Nat} {g : Nat} {t : TypeId} {cs : Array Value} {p : List MemPlace} (hg : Tryz.prog.globalNamed "claviger/curve.lines" = some g) (ht : (Tryz.prog.globals[g]?).map (·.type) = some t)
   (hv : W.var? Tryz.prog "claviger/curve.lines" = some cs) (hd : DataW.trod enc Tryz.prog W base sp held fuel t cs.toList = some (Rows.laid_claviger_curve_lines, p)) : Tabs W := by
 have gN : Tryz.prog.globalNamed "claviger/curve.lines" = some 2 := by kernel_rfl
 have tN:(Tryz.prog.globals[2]?).map (·.type) = some 214:=by kernel_rfl
 obtain rfl:=Option.some.inj (gN.symm.trans hg)
 obtain rfl:=Option.some.inj (tN.symm.trans ht)
 rw [rows_laid] at hd
 have hc:=tab_cells (k:=4) rows gT fT Tryz.underlying214 (by kernel_rfl) (fun m cs p a h => row_cells h) hd
 intro i r hi j v hj
 have h9:=World.var?_cell hg hv (i * 4 + j)
 rw [<- Array.getElem?_toList,hc i r hi j v hj] at h9
 exact h9
def cells:Array Value:=(rows.flatMap fT).toArray
end Curve
end Go.Proofs.YtddlaafpianjbaaGreatDoor
