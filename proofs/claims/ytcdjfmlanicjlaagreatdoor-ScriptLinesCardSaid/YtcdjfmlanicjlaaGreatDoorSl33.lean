import Derived.Test.YtcdjfmlanicjlaaGreatDoorSl3
import Derived.LaidMore
import Derived.Deep.MidRow
import Derived.Lib.SmallJoins
set_option maxRecDepth 100000
namespace Go.Proofs.YtcdjfmlanicjlaaGreatDoor
open Go.RowKit
def KMk (K:World -> Prop) (f:Nat) (args:Array Value) (v:Value):Prop:=∀ w,K w -> Calls Tryz.prog f args w fun e w' => e = .returned v /\ Below w.heap.size w w'
class Kp (K:World -> Prop):Prop where
 keep:∀ {w w':World},K w -> Below w.heap.size w w' -> K w'
theorem KMk.calls0 {K:World -> Prop} {f:Nat} {args:Array Value} {v:Value} (h:KMk K f args v) {w:World} (hT:K w) {R:Ending -> World -> Prop} (k:∀ w',Below w.heap.size w w' -> R (.returned v) w'):Calls Tryz.prog f args w R :=
 (h w hT).mono fun _ _ ⟨he,hb⟩ => by subst he; exact k _ hb
theorem Mak.k {K:World -> Prop} {f:Nat} {args:Array Value} {v:Value} (h:Mak f args v):KMk K f args v:=fun w _ => h w
theorem Ret.k {K:World -> Prop} {f:Nat} {args:Array Value} {v:Value} (h:Ret f args v):KMk K f args v:=h.mak.k
theorem KMk.weak {K K2:World -> Prop} {f:Nat} {args:Array Value} {v:Value} (h:KMk K f args v) (hk:∀ w,K2 w -> K w):KMk K2 f args v:=fun w hw => h w (hk w hw)
instance Kp.and {K K2:World -> Prop} [Kp K] [Kp K2]:Kp (fun w => K w /\ K2 w):=⟨fun h hb => ⟨Kp.keep h.1 hb,Kp.keep h.2 hb⟩⟩
theorem lit_str {H:Type} {enc:TypeId × Value -> H} {P:Program} {w:World} {base:Nat} {sp:Nat -> Bool} {held:Bool} {m:Nat} {t:TypeId} {cs:List Value} {l:List UInt8} {p:List MemPlace} (ht:P.underlying t = some .string)
   (h:DataW.trod enc P w base sp held m t cs = some (.lit (.string l),p)):cs = [.string (bs l)]:=by
 obtain ⟨z,e0,e1,_⟩:=DataW.trod_string ht h
 simp only [Prod.mk.injEq,DataW.lit.injEq,Lit.string.injEq] at e1
 rw [e0,e1.1,bs_list]
theorem lit_int {H:Type} {enc:TypeId × Value -> H} {P:Program} {w:World} {base:Nat} {sp:Nat -> Bool} {held:Bool} {m:Nat} {t:TypeId} {cs:List Value} {k k':IntKind} {n:Int} {p:List MemPlace} (ht:P.underlying t = some (.int k))
   (h:DataW.trod enc P w base sp held m t cs = some (.lit (.int k' n),p)):cs = [.int k n]:=by
 obtain ⟨z,e0,e1,_⟩:=DataW.trod_int ht h
 simp only [Prod.mk.injEq,DataW.lit.injEq,Lit.int.injEq] at e1
 rw [e0,e1.1.2]
theorem struct_fields {H:Type} {enc:TypeId × Value -> H} {P:Program} {w:World} {base:Nat} {sp:Nat -> Bool} {held:Bool} {m:Nat} {t:TypeId} {fs:Array Field} {cs:List Value} {ds:List (DataW H)} {p:List MemPlace} (ht:P.underlying t = some (.struct fs)) (hone:Go.Deep.oneCellFields P fs = true) (hC:P.cellsOf t = fs.size)
   (h:DataW.trod enc P w base sp held m t cs = some (.agg ds,p)):cs.length = fs.size /\ ∀ (i:Nat) (f:Go.Field) (d:DataW H) (v:Value),fs[i]? = some f -> ds[i]? = some d -> cs[i]? = some v -> ∃ n q,DataW.trod enc P w base sp held n f.type [v] = some (d,q):=by
 obtain ⟨xs,n,_,hx,hl,hlen,hf⟩:=DataW.trod_struct ht h
 simp only [Prod.mk.injEq,DataW.agg.injEq] at hx
 refine ⟨hl.trans hC,fun i f d v h1 h2 h3 => ?_⟩
 have h4:=hf i f h1
 obtain ⟨o0,k0⟩:=Go.Deep.hone_of hone i f h1
 rw [o0,k0] at h4
 obtain ⟨hi,h5⟩:=List.getElem?_eq_some_iff.1 h3
 have h6:(cs.drop i).take 1 = [v]:=by
   rw [List.drop_eq_getElem_cons hi,h5]; rfl
 rw [h6] at h4
 rw [hx.1,List.getElem?_map,Option.map_eq_some_iff] at h2
 obtain ⟨y,hy,hyd⟩:=h2
 refine ⟨n,y.2, ?_⟩
 rw [h4,hy,<- hyd]
theorem tab_cells {H:Type} {enc:TypeId × Value -> H} {P:Program} {w:World} {base:Nat} {sp:Nat -> Bool} {held:Bool} {fuel:Nat} {t e:TypeId} {n k:Nat} {cs:List Value} {α:Type} (rows:List α) (g:α -> DataW H) (f:α -> List Value) {p:List MemPlace}
   (ht:P.underlying t = some (.array n e)) (hk:P.cellsOf e = k)
   (hrow:∀ m cs p a,DataW.trod enc P w base sp held m e cs = some (g a,p) -> cs = f a)
   (h:DataW.trod enc P w base sp held fuel t cs = some (.agg (rows.map g),p)):∀ i a,rows[i]? = some a -> ∀ j v,(f a)[j]? = some v -> cs[i * k + j]? = some v:=by
 obtain ⟨xs,m,_,hx,hl,hxl,hel⟩:=DataW.trod_array ht h
 simp only [Prod.mk.injEq,DataW.agg.injEq] at hx
 intro i a hi j v hv
 have hil:i < rows.length:=(List.getElem?_eq_some_iff.1 hi).1
 have hxr:xs.length = rows.length:=by
   have:=congrArg List.length hx.1
   simpa using this.symm
 have h2:(xs.map (·.1))[i]? = some (g a):=by rw [<- hx.1,List.getElem?_map,hi]; rfl
 rw [List.getElem?_map,Option.map_eq_some_iff] at h2
 obtain ⟨y,hy,hya⟩:=h2
 have h3:=hel i (by omega)
 rw [hk,hy] at h3
 have h4:=hrow m _ y.2 a (by rw [h3,<- hya])
 have h5:((cs.drop (i * k)).take k)[j]? = some v:=by rw [h4]; exact hv
 rw [List.getElem?_take] at h5
 split at h5
 · rw [List.getElem?_drop] at h5
   exact h5
 · cases h5
end Go.Proofs.YtcdjfmlanicjlaaGreatDoor
namespace Go
end Go
namespace Go.Proofs.YtcdjfmlanicjlaaGreatDoor
open Go.RowKit Go.Joins Go.Deep
namespace Kind
abbrev Row:=List UInt8 × Int × List UInt8 × Int × List UInt8
def rows:List Row:=[([65,69,83,45,49,50,56],16,[65],0,[50,46,49,54,46,56,52,48,46,49,46,49,48,49,46,51,46,52,46,49,46,49]),([65,69,83,45,49,57,50],24,[65],0,[50,46,49,54,46,56,52,48,46,49,46,49,48,49,46,51,46,52,46,49,46,50,49]),([65,69,83,45,50,53,54],32,[65],0,[50,46,49,54,46,56,52,48,46,49,46,49,48,49,46,51,46,52,46,49,46,52,49]),([84,68,69,83,45,50],16,[84],0,[49,46,50,46,56,52,48,46,49,49,51,53,52,57,46,51,46,55]),([84,68,69,83,45,51],24,[84],0,[49,46,50,46,56,52,48,46,49,49,51,53,52,57,46,51,46,55]),([72,77,65,67,45,83,72,65,50,53,54],32,[72],0,[49,46,50,46,56,52,48,46,49,49,51,53,52,57,46,50,46,57]),([72,77,65,67,45,83,72,65,53,49,50],64,[72],0,[49,46,50,46,56,52,48,46,49,49,51,53,52,57,46,50,46,49,49]),([69,67,45,80,50,50,52],28,[69],1,[49,46,50,46,56,52,48,46,49,48,48,52,53,46,50,46,49]),([69,67,45,80,50,53,54],32,[69],2,[49,46,50,46,56,52,48,46,49,48,48,52,53,46,50,46,49]),([69,67,45,80,51,56,52],48,[69],3,[49,46,50,46,56,52,48,46,49,48,48,52,53,46,50,46,49]),([69,67,45,80,53,50,49],66,[69],4,[49,46,50,46,56,52,48,46,49,48,48,52,53,46,50,46,49])]
def noneR:Row:=([],0,[],0,[])
def gT {H:Type} (r:Row):DataW H:=.agg [.lit (.string r.1),.lit (.int .i64 r.2.1),.lit (.string r.2.2.1),.lit (.int .i64 r.2.2.2.1),.lit (.string r.2.2.2.2)]
def fT (r:Row):List Value:=[.string (bs r.1),.int .i64 r.2.1,.string (bs r.2.2.1),.int .i64 r.2.2.2.1,.string (bs r.2.2.2.2)]
theorem rows_laid {H:Type}:(Rows.laid_claviger_kind_lines (H:=H)) = .agg (rows.map gT):=rfl
theorem row_cells {H:Type} {enc:TypeId × Value -> H} {w:World} {base:Nat} {sp:Nat -> Bool} {held:Bool} {m:Nat} {cs:List Value} {p:List MemPlace} {r:Row} (h:DataW.trod enc Tryz.prog w base sp held m 107 cs = some (gT r,p)):cs = fT r:=by
 obtain ⟨hl,hf⟩:=struct_fields Tryz.underlying107 (by kernel_rfl) (by kernel_rfl) h
 match cs,hl with
 | [v0,v1,v2,v3,v4],_ =>
   obtain ⟨_,_,h0⟩:=hf 0 _ _ v0 rfl rfl rfl
   obtain ⟨_,_,h1⟩:=hf 1 _ _ v1 rfl rfl rfl
   obtain ⟨_,_,h2⟩:=hf 2 _ _ v2 rfl rfl rfl
   obtain ⟨_,_,h3⟩:=hf 3 _ _ v3 rfl rfl rfl
   obtain ⟨_,_,h4⟩:=hf 4 _ _ v4 rfl rfl rfl
   have k0:=lit_str Tryz.underlying9 h0
   have k1:=lit_int Tryz.underlying3 h1
   have k2:=lit_str Tryz.underlying9 h2
   have k3:=lit_int Tryz.underlying3 h3
   have k4:=lit_str Tryz.underlying9 h4
   simp only [List.cons.injEq,and_true] at k0 k1 k2 k3 k4
   rw [k0,k1,k2,k3,k4]; rfl
def Tabs (W:World):Prop:=∀ i r,rows[i]? = some r -> ∀ j v,(fT r)[j]? = some v -> W.cell? ⟨1,i * 5 + j,none⟩ = some v
theorem Tabs.lt {W:World} (h:Tabs W):1 < W.heap.size:=block_lt_of_cell (h 0 _ rfl 0 _ rfl)
instance:Kp Tabs:=⟨fun h hb i r hi j v hv => (hb.cell (p:=⟨1,i * 5 + j,none⟩) h.lt).trans (h i r hi j v hv)⟩
theorem tabs_at {W : World} {H : Type} {enc : TypeId × Value -> H} {base : Nat} {sp : Nat -> Bool} {held : Bool} {fuel : Nat} {g : Nat} {t : TypeId} {cs : Array Value} {p : List MemPlace} (hg : Tryz.prog.globalNamed "claviger/kind.lines" = some g) (ht : (Tryz.prog.globals[g]?).map (·.type) = some t)
   (hv : W.var? Tryz.prog "claviger/kind.lines" = some cs) (hd : DataW.trod enc Tryz.prog W base sp held fuel t cs.toList = some (Rows.laid_claviger_kind_lines, p)) : Tabs W := by
 have gN : Tryz.prog.globalNamed "claviger/kind.lines" = some 1 := by kernel_rfl
 have tN:(Tryz.prog.globals[1]?).map (·.type) = some 117:=by kernel_rfl
 obtain rfl:=Option.some.inj (gN.symm.trans hg)
 obtain rfl:=Option.some.inj (tN.symm.trans ht)
 rw [rows_laid] at hd
 have hc:=tab_cells (k:=5) rows gT fT Tryz.underlying117 (by kernel_rfl) (fun m cs p a h => row_cells h) hd
 intro i r hi j v hj
 have h9:=World.var?_cell hg hv (i * 5 + j)
 rw [<- Array.getElem?_toList,hc i r hi j v hj] at h9
 exact h9
def cells:Array Value:=(rows.flatMap fT).toArray
end Kind
end Go.Proofs.YtcdjfmlanicjlaaGreatDoor
namespace Go.Proofs.YtcdjfmlanicjlaaGreatDoor
open Go.RowKit
namespace Kind
def sizeOf (r:Row):Int:=r.2.1
theorem rsize_1:Ret 88 #[.int .i64 1] (.int .i64 16):=by
 intro w
 go_enter Tryz.func88,Tryz.ntmps88
 go_wp2_with fail
 go_ret
 exact ⟨rfl,rfl⟩
theorem rsize_2:Ret 88 #[.int .i64 2] (.int .i64 24):=by
 intro w
 go_enter Tryz.func88,Tryz.ntmps88
 go_wp2_with fail
 go_ret
 exact ⟨rfl,rfl⟩
theorem rsize_3:Ret 88 #[.int .i64 3] (.int .i64 32):=by
 intro w
 go_enter Tryz.func88,Tryz.ntmps88
 go_wp2_with fail
 go_ret
 exact ⟨rfl,rfl⟩
theorem rsize_4:Ret 88 #[.int .i64 4] (.int .i64 16):=by
 intro w
 go_enter Tryz.func88,Tryz.ntmps88
 go_wp2_with fail
 go_ret
 exact ⟨rfl,rfl⟩
theorem rsize_5:Ret 88 #[.int .i64 5] (.int .i64 24):=by
 intro w
 go_enter Tryz.func88,Tryz.ntmps88
 go_wp2_with fail
 go_ret
 exact ⟨rfl,rfl⟩
theorem rsize_6:Ret 88 #[.int .i64 6] (.int .i64 32):=by
 intro w
 go_enter Tryz.func88,Tryz.ntmps88
 go_wp2_with fail
 go_ret
 exact ⟨rfl,rfl⟩
theorem rsize_7:Ret 88 #[.int .i64 7] (.int .i64 64):=by
 intro w
 go_enter Tryz.func88,Tryz.ntmps88
 go_wp2_with fail
 go_ret
 exact ⟨rfl,rfl⟩
theorem rsize_8:Ret 88 #[.int .i64 8] (.int .i64 28):=by
 intro w
 go_enter Tryz.func88,Tryz.ntmps88
 go_wp2_with fail
 go_ret
 exact ⟨rfl,rfl⟩
theorem rsize_9:Ret 88 #[.int .i64 9] (.int .i64 32):=by
 intro w
 go_enter Tryz.func88,Tryz.ntmps88
 go_wp2_with fail
 go_ret
 exact ⟨rfl,rfl⟩
theorem rsize_10:Ret 88 #[.int .i64 10] (.int .i64 48):=by
 intro w
 go_enter Tryz.func88,Tryz.ntmps88
 go_wp2_with fail
 go_ret
 exact ⟨rfl,rfl⟩
theorem rsize_11:Ret 88 #[.int .i64 11] (.int .i64 66):=by
 intro w
 go_enter Tryz.func88,Tryz.ntmps88
 go_wp2_with fail
 go_ret
 exact ⟨rfl,rfl⟩
theorem rsize_no (k:Int) (h:k < 1 ∨ 11 < k):Ret 88 #[.int .i64 k] (.int .i64 0):=by
 intro w
 have a1:(k == 1) = false:=by rw [beq_eq_false_iff_ne]; omega
 have a2:(k == 2) = false:=by rw [beq_eq_false_iff_ne]; omega
 have a3:(k == 3) = false:=by rw [beq_eq_false_iff_ne]; omega
 have a4:(k == 4) = false:=by rw [beq_eq_false_iff_ne]; omega
 have a5:(k == 5) = false:=by rw [beq_eq_false_iff_ne]; omega
 have a6:(k == 6) = false:=by rw [beq_eq_false_iff_ne]; omega
 have a7:(k == 7) = false:=by rw [beq_eq_false_iff_ne]; omega
 have a8:(k == 8) = false:=by rw [beq_eq_false_iff_ne]; omega
 have a9:(k == 9) = false:=by rw [beq_eq_false_iff_ne]; omega
 have a10:(k == 10) = false:=by rw [beq_eq_false_iff_ne]; omega
 have a11:(k == 11) = false:=by rw [beq_eq_false_iff_ne]; omega
 by_cases h1:k < 1
 · clear h
   go_enter Tryz.func88,Tryz.ntmps88
   go_wp2_with fail
   go_ret
   exact ⟨rfl,rfl⟩
 · have h2:11 < k:=by omega
   clear h
   go_enter Tryz.func88,Tryz.ntmps88
   go_wp2_with fail
   go_ret
   exact ⟨rfl,rfl⟩
end Kind
end Go.Proofs.YtcdjfmlanicjlaaGreatDoor
namespace Go.Proofs.YtcdjfmlanicjlaaGreatDoor
open Go.RowKit Go.Joins Go.Deep
namespace Curve
abbrev Row:=List UInt8 × Int × List UInt8 × List UInt8
def rows:List Row:=[([80,45,50,50,52],28,[49,46,51,46,49,51,50,46,48,46,51,51],[70,70,70,70,70,70,70,70,70,70,70,70,70,70,70,70,70,70,70,70,70,70,70,70,70,70,70,70,49,54,65,50,69,48,66,56,70,48,51,69,49,51,68,68,50,57,52,53,53,67,53,67,50,65,51,68]),([80,45,50,53,54],32,[49,46,50,46,56,52,48,46,49,48,48,52,53,46,51,46,49,46,55],[70,70,70,70,70,70,70,70,48,48,48,48,48,48,48,48,70,70,70,70,70,70,70,70,70,70,70,70,70,70,70,70,66,67,69,54,70,65,65,68,65,55,49,55,57,69,56,52,70,51,66,57,67,65,67,50,70,67,54,51,50,53,53,49]),([80,45,51,56,52],48,[49,46,51,46,49,51,50,46,48,46,51,52],[70,70,70,70,70,70,70,70,70,70,70,70,70,70,70,70,70,70,70,70,70,70,70,70,70,70,70,70,70,70,70,70,70,70,70,70,70,70,70,70,70,70,70,70,70,70,70,70,67,55,54,51,52,68,56,49,70,52,51,55,50,68,68,70,53,56,49,65,48,68,66,50,52,56,66,48,65,55,55,65,69,67,69,67,49,57,54,65,67,67,67,53,50,57,55,51]),([80,45,53,50,49],66,[49,46,51,46,49,51,50,46,48,46,51,53],[48,49,70,70,70,70,70,70,70,70,70,70,70,70,70,70,70,70,70,70,70,70,70,70,70,70,70,70,70,70,70,70,70,70,70,70,70,70,70,70,70,70,70,70,70,70,70,70,70,70,70,70,70,70,70,70,70,70,70,70,70,70,70,70,70,70,70,65,53,49,56,54,56,55,56,51,66,70,50,70,57,54,54,66,55,70,67,67,48,49,52,56,70,55,48,57,65,53,68,48,51,66,66,53,67,57,66,56,56,57,57,67,52,55,65,69,66,66,54,70,66,55,49,69,57,49,51,56,54,52,48,57])]
def noneR:Row:=([],0,[],[])
def gT {H:Type} (r:Row):DataW H:=.agg [.lit (.string r.1),.lit (.int .i64 r.2.1),.lit (.string r.2.2.1),.lit (.string r.2.2.2)]
def fT (r:Row):List Value:=[.string (bs r.1),.int .i64 r.2.1,.string (bs r.2.2.1),.string (bs r.2.2.2)]
theorem rows_laid {H:Type}:(Rows.laid_claviger_curve_lines (H:=H)) = .agg (rows.map gT):=rfl
theorem row_cells {H:Type} {enc:TypeId × Value -> H} {w:World} {base:Nat} {sp:Nat -> Bool} {held:Bool} {m:Nat} {cs:List Value} {p:List MemPlace} {r:Row} (h:DataW.trod enc Tryz.prog w base sp held m 124 cs = some (gT r,p)):cs = fT r:=by
 obtain ⟨hl,hf⟩:=struct_fields Tryz.underlying124 (by kernel_rfl) (by kernel_rfl) h
 match cs,hl with
 | [v0,v1,v2,v3],_ =>
   obtain ⟨_,_,h0⟩:=hf 0 _ _ v0 rfl rfl rfl
   obtain ⟨_,_,h1⟩:=hf 1 _ _ v1 rfl rfl rfl
   obtain ⟨_,_,h2⟩:=hf 2 _ _ v2 rfl rfl rfl
   obtain ⟨_,_,h3⟩:=hf 3 _ _ v3 rfl rfl rfl
   have k0:=lit_str Tryz.underlying9 h0
   have k1:=lit_int Tryz.underlying3 h1
   have k2:=lit_str Tryz.underlying9 h2
   have k3:=lit_str Tryz.underlying9 h3
   simp only [List.cons.injEq,and_true] at k0 k1 k2 k3
   rw [k0,k1,k2,k3]; rfl
def Tabs (W:World):Prop:=∀ i r,rows[i]? = some r -> ∀ j v,(fT r)[j]? = some v -> W.cell? ⟨4,i * 4 + j,none⟩ = some v
theorem Tabs.lt {W:World} (h:Tabs W):4 < W.heap.size:=block_lt_of_cell (h 0 _ rfl 0 _ rfl)
instance:Kp Tabs:=⟨fun h hb i r hi j v hv => (hb.cell (p:=⟨4,i * 4 + j,none⟩) h.lt).trans (h i r hi j v hv)⟩
theorem tabs_at {W : World} {H : Type} {enc : TypeId × Value -> H} {base : Nat} {sp : Nat -> Bool} {held : Bool} {fuel : Nat} {g : Nat} {t : TypeId} {cs : Array Value} {p : List MemPlace} (hg : Tryz.prog.globalNamed "claviger/curve.lines" = some g) (ht : (Tryz.prog.globals[g]?).map (·.type) = some t)
   (hv : W.var? Tryz.prog "claviger/curve.lines" = some cs) (hd : DataW.trod enc Tryz.prog W base sp held fuel t cs.toList = some (Rows.laid_claviger_curve_lines, p)) : Tabs W := by
 have gN : Tryz.prog.globalNamed "claviger/curve.lines" = some 4 := by kernel_rfl
 have tN:(Tryz.prog.globals[4]?).map (·.type) = some 133:=by kernel_rfl
 obtain rfl:=Option.some.inj (gN.symm.trans hg)
 obtain rfl:=Option.some.inj (tN.symm.trans ht)
 rw [rows_laid] at hd
 have hc:=tab_cells (k:=4) rows gT fT Tryz.underlying133 (by kernel_rfl) (fun m cs p a h => row_cells h) hd
 intro i r hi j v hj
 have h9:=World.var?_cell hg hv (i * 4 + j)
 rw [<- Array.getElem?_toList,hc i r hi j v hj] at h9
 exact h9
def cells:Array Value:=(rows.flatMap fT).toArray
end Curve
end Go.Proofs.YtcdjfmlanicjlaaGreatDoor
