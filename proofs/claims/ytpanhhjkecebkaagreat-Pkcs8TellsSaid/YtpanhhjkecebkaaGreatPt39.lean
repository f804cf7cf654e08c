import Derived.Test.YtpanhhjkecebkaaGreatPt38
set_option maxRecDepth 100000
namespace Go.Proofs.YtpanhhjkecebkaaGreat
open Go.RowKit
namespace Tlv
open Span Flt Rw
theorem HR.keptV {w:World} {g:Nat} {C:Array Value} {t:TypeId} {W W':World} {v:Value} (h:HR w g C t W) (hk:KeptBut W W' v) (hn:some g ≠ v.ownBlock):HR w g C t W' :=
 ⟨(hk.block g (Array.getElem?_eq_some_iff.1 h.row).1 hn).trans h.row⟩
theorem store_rows {ops:Array Oper} {rest:List Oper} {o:Oper} {a:Act} {Q:Exit -> Act -> World -> Prop} (hgd:o.guard = none) (ty:TypeId) (x y:Operand) (ho:o.op = .store ty x y) (hi:(Tryz.prog.info? ty).map (·.size) = some 1)
   (w0 W:World) (A B:List Row) (e:TypeId) (k g n c:Nat) (xs:List Value) (hR:Rw.Rows W w0.heap.size (A ++ ⟨e,k,.slice (some ⟨g,0,none⟩) n c,n,xs⟩ :: B)) (hS:Since w0 W) (p:Nat) (hp:p < n * k)
   (hx:a.eval x = .pointer (some ⟨g,p,none⟩)) (v:Value) (hy:a.eval y = v) (h1:v.oneCell' = true)
   (h:∀ W',Rw.Rows W' w0.heap.size (A ++ ⟨e,k,.slice (some ⟨g,0,none⟩) n c,n,xs.set p v⟩ :: B) -> Since w0 W' -> KeptBut W W' (.slice (some ⟨g,0,none⟩) n c) -> wpList Tryz.prog ops Q rest (a.put o.dst undef) W') :
   wpList Tryz.prog ops Q (o :: rest) a W:=by
 subst hy;have hown:=hR.get;obtain ⟨cur,hb,hg,hsz⟩:∃ cur:Array Value,w0.heap.size <= g /\ W.heap[g]? = some (.cells cur e (0,0)) /\ n * k <= cur.size:=by
   rcases hown.2 with ⟨h0,_⟩ | ⟨g',cap,cur,hv,hb,hg,hc,hm,hs,ht⟩
   · cases h0
   · cases hv;have h8:n * k <= c * k:=Nat.mul_le_mul_right k hc;have h7:cur.size = c * k:=by simpa using hs
     exact ⟨cur,hb,hg,by rw [h7]; exact h8⟩
 have hrun:(storeVar ty ⟨g,p,none⟩ (a.eval y)).run Tryz.prog W = .ok () (W.setCell ⟨g,p,none⟩ (a.eval y)):=by
   have h9:=run_storeCells_at Tryz.prog g p e [a.eval y] 0 cur W hg (by simp; omega) (fun x hx => by simp at hx; subst hx; exact h1);have hc:(a.eval y).cells = #[a.eval y]:=by
     generalize a.eval y = z at h1;cases z <;> first | rfl | cases h1
   cases hq:Tryz.prog.info? ty with
   | none => simp [hq] at hi
   | some i =>
     have hs:i.size = 1:=by simpa [hq] using hi
     rw [Go.setCell_eq_setRow W g p cur e _ _ hg];have e1:(cur.toList.take p ++ [a.eval y] ++ cur.toList.drop (p + 1)).toArray = cur.setIfInBounds p (a.eval y):=by
       apply Array.ext'
       rw [Array.toList_setIfInBounds,List.set_eq_take_append_cons_drop];have:p < cur.toList.length:=by simp; omega
       rw [if_pos this];simp
     simp only [Nat.add_zero,List.length_cons,List.length_nil,Nat.zero_add] at h9;rw [e1] at h9;simp [storeVar,sizeOf,typeInfo,hq,hc,hs,h9]
 refine wpList_plain hgd fun _ hK => ?_
 unfold Oper.wp execOp;simp only [ho,hx,Instr.storeAt,Instr.sureAddr,Sem.run_bind,Sem.run_pure,Result.andThen_ok,hrun];refine hK _ _ (h _ (hR.set p hp _) (Below.setCell (p:=⟨g,p,none⟩) hS hb _) ⟨by simp,fun b _ hne => heap_setCell_other W ⟨g,p,none⟩ b _ (fun e => hne (by subst e; rfl))⟩)
theorem rows_kid {tv sv ov:Value} {ns:List (Nd × Value)} {sp:List (Nat × Nat)} {op:List Nat} {o:Nat} {nd:Nd} {kv:Value} (h:ns[o]? = some (nd,kv)):WRows tv sv ov ns sp op =
   (⟨87,5,tv,ns.length,ns.flatMap nc⟩ :: ⟨111,1,sv,sp.length,sp.map (fun p => .complex .f64 (Flt.fl (p.1:Int)) (Flt.fl (p.2:Int)))⟩ :: ⟨3,1,ov,op.length,op.map (fun i:Nat => Value.int .i64 (i:Int))⟩ :: (ns.take o).map kr) ++
     ⟨3,1,kv,nd.k.length,nd.k.map (Value.int .i64)⟩ :: (ns.drop (o + 1)).map kr:=by
 unfold WRows;rw [kr_split ns o _ h];rfl
theorem rows_kid2 {tv sv ov:Value} {ns:List (Nd × Value)} {sp:List (Nat × Nat)} {op:List Nat} {o:Nat} {nd:Nd} {kv kv2:Value} (h:ns[o]? = some (nd,kv)) (c:Int) :
   (⟨87,5,tv,ns.length,ns.flatMap nc⟩ :: ⟨111,1,sv,sp.length,sp.map (fun p => .complex .f64 (Flt.fl (p.1:Int)) (Flt.fl (p.2:Int)))⟩ :: ⟨3,1,ov,op.length,op.map (fun i:Nat => Value.int .i64 (i:Int))⟩ :: (ns.take o).map kr) ++
     ⟨3,1,kv2,nd.k.length + 1,nd.k.map (Value.int .i64) ++ [.int .i64 c]⟩ :: (ns.drop (o + 1)).map kr =
   [] ++ ⟨87,5,tv,ns.length,ns.flatMap nc⟩ :: ((WRows tv sv ov (addV ns o [c] kv2) sp op).drop 1):=by
 unfold WRows;rw [kr_add ns o _ h];rfl
theorem rows_node2 {w:World} {base:Nat} {tv0 tv sv ov:Value} {ns:List (Nd × Value)} {sp:List (Nat × Nat)} {op:List Nat} (n:Nat) (hn:ns.length = n) (c t:Int) (b:Bool) (d:ByteArray)
   (h:Rw.Rows w base ([] ++ ⟨87,5,tv,n + 1,ns.flatMap nc ++ [.int .i64 c,.int .i64 t,.bool b,.string d,.slice none 0 0]⟩ :: ((WRows tv0 sv ov ns sp op).drop 1))):Rw.Rows w base (WRows tv sv ov (ns ++ [(⟨c,t,b,d,[]⟩,.slice none 0 0)]) sp op):=by
 subst hn;rw [WRows.grow _ _ _ _ _ _ _ rfl];exact h.add_nil 3 1
theorem rows_span (tv sv ov:Value) (ns:List (Nd × Value)) (sp:List (Nat × Nat)) (op:List Nat):WRows tv sv ov ns sp op = [⟨87,5,tv,ns.length,ns.flatMap nc⟩] ++ ⟨111,1,sv,sp.length,sp.map (fun p => .complex .f64 (Flt.fl (p.1:Int)) (Flt.fl (p.2:Int)))⟩ :: ((WRows tv sv ov ns sp op).drop 2):=rfl
theorem rows_span2 (tv sv0 sv ov:Value) (ns:List (Nd × Value)) (sp:List (Nat × Nat)) (op:List Nat) (p q:Nat) :
   [⟨87,5,tv,ns.length,ns.flatMap nc⟩] ++ ⟨111,1,sv,sp.length + 1,sp.map (fun p => .complex .f64 (Flt.fl (p.1:Int)) (Flt.fl (p.2:Int))) ++ [.complex .f64 (fl (p:Int)) (fl (q:Int))]⟩ :: ((WRows tv sv0 ov ns sp op).drop 2) = WRows tv sv ov ns (sp ++ [(p,q)]) op:=by
 unfold WRows;rw [List.length_append,List.map_append];rfl
theorem rows_span3 {w:World} {base:Nat} {tv sv0 sv ov:Value} {ns:List (Nd × Value)} {sp:List (Nat × Nat)} {op:List Nat} {p q:Nat}
   (h:Rw.Rows w base ([⟨87,5,tv,ns.length,ns.flatMap nc⟩] ++ ⟨111,1,sv,sp.length + 1,sp.map (fun p => .complex .f64 (Flt.fl (p.1:Int)) (Flt.fl (p.2:Int))) ++ [.complex .f64 (fl (p:Int)) (fl (q:Int))]⟩ :: ((WRows tv sv0 ov ns sp op).drop 2))):Rw.Rows w base (WRows tv sv ov ns (sp ++ [(p,q)]) op):=rows_span2 tv sv0 sv ov ns sp op p q ▸ h
theorem rows_open (tv sv ov:Value) (ns:List (Nd × Value)) (sp:List (Nat × Nat)) (op:List Nat):WRows tv sv ov ns sp op = [⟨87,5,tv,ns.length,ns.flatMap nc⟩,⟨111,1,sv,sp.length,sp.map (fun p => .complex .f64 (Flt.fl (p.1:Int)) (Flt.fl (p.2:Int)))⟩] ++
   ⟨3,1,ov,op.length,op.map (fun i:Nat => Value.int .i64 (i:Int))⟩ :: ((WRows tv sv ov ns sp op).drop 3):=rfl
theorem rows_open2 (tv sv ov0 ov:Value) (ns:List (Nd × Value)) (sp:List (Nat × Nat)) (op:List Nat) (i:Nat) :
   [⟨87,5,tv,ns.length,ns.flatMap nc⟩,⟨111,1,sv,sp.length,sp.map (fun p => .complex .f64 (Flt.fl (p.1:Int)) (Flt.fl (p.2:Int)))⟩] ++ ⟨3,1,ov,op.length + 1,op.map (fun i:Nat => Value.int .i64 (i:Int)) ++ [.int .i64 (i:Int)]⟩ :: ((WRows tv sv ov0 ns sp op).drop 3) = WRows tv sv ov ns sp (op ++ [i]):=by
 unfold WRows;rw [List.length_append,List.map_append];rfl
theorem rows_open3 {w:World} {base:Nat} {tv sv ov0 ov:Value} {ns:List (Nd × Value)} {sp:List (Nat × Nat)} {op:List Nat} {i:Nat}
   (h:Rw.Rows w base ([⟨87,5,tv,ns.length,ns.flatMap nc⟩,⟨111,1,sv,sp.length,sp.map (fun p => .complex .f64 (Flt.fl (p.1:Int)) (Flt.fl (p.2:Int)))⟩] ++ ⟨3,1,ov,op.length + 1,op.map (fun i:Nat => Value.int .i64 (i:Int)) ++ [.int .i64 (i:Int)]⟩ :: ((WRows tv sv ov0 ns sp op).drop 3))):Rw.Rows w base (WRows tv sv ov ns sp (op ++ [i])):=rows_open2 tv sv ov0 ov ns sp op i ▸ h
theorem intl_one:(Tryz.prog.info? 44).map (·.size) = some 1:=by kernel_rfl
def KL (ns:List (Nd × Value)):Prop:=∀ (i:Nat) (x:Nd × Value),ns[i]? = some x -> x.1.k.length <= ns.length
theorem kl_grow {ns:List (Nd × Value)} (h:KL ns) (o:Nat) (c:Int) (v:Value) (x:Nd × Value) (hx:x.1.k = []):KL (addV ns o [c] v ++ [x]):=by
 intro i y hy;rw [List.length_append,addV_len,List.length_singleton]
 by_cases hi:i < (addV ns o [c] v).length
 · rw [List.getElem?_append_left hi] at hy;unfold addV at hy;rw [List.getElem?_modify] at hy;cases hq:ns[i]? with
   | none => rw [hq] at hy; cases hy
   | some z =>
     rw [hq] at hy;have h1:=h i z hq;have h2:(if o = i then (({ z.1 with k:=z.1.k ++ [c] },v):Nd × Value) else z) = y:=by
       have h3:=Option.some.inj hy;rw [<- h3]
     rw [<- h2]
     split
     · show (z.1.k ++ [c]).length <= _
       rw [List.length_append,List.length_singleton];omega
     · omega
 · rw [List.getElem?_append_right (by omega)] at hy;cases hq:i - (addV ns o [c] v).length with
   | zero => rw [hq] at hy; cases hy; rw [hx]; exact Nat.zero_le _
   | succ j => rw [hq] at hy; cases hy
theorem kl_one (x:Nd × Value) (hx:x.1.k = []):KL [x]:=by
 intro i y hy;cases i with
 | zero => cases hy; rw [hx]; exact Nat.zero_le _
 | succ i => cases hy
theorem own_any {w:World} {base:Nat} {e:TypeId} {k n:Nat} {v:Value} {xs:List Value} (h:w.ownsRow base e k v n xs):∃ A c,v = .slice A n c:=by
 rcases h.2 with ⟨h0,h1⟩ | ⟨g',cap,cur,hv,_⟩
 · subst h1; exact ⟨_,_,h0⟩
 · exact ⟨_,_,hv⟩
end Tlv
namespace Tlv
open Span Flt Rw
def WPost (w:World) (s:ByteArray) (e:Ending) (w':World):Prop :=
 match top Strs.rightB s with
 | .error (c,p) => e = .returned (fltV (c:Int) (p:Int)) /\ Since w w'
 | .ok g => ∃ tv sv ov ns,e = .returned (.tuple #[tv,sv,.agg (F2 0 0)]) /\ Rw.Rows w' (w.alloc (.cells #[.int .i64 0,.int .i64 0] 65)).heap.size (WRows tv sv ov ns (g.spans 0) []) /\ ns.map Prod.fst = g.flat 0 /\ Since w w'
theorem wpost_err {w:World} {s:ByteArray} {c p:Nat} {w':World} (h:top Strs.rightB s = .error (c,p)) (hs:Since w w'):WPost w s (.returned (fltV (c:Int) (p:Int))) w':=by
 unfold WPost;rw [h];exact ⟨rfl,hs⟩
def JW (w:World) (s:ByteArray) (a:Act) (W:World):Prop :=
 ∃ (tv sv ov:Value) (p e:Nat) (ns:List (Nd × Value)) (sp:List (Nat × Nat)) (op:List Nat) (u:Nat -> Value),a = { tmps:=#[.string s,u 1,.slice none 0 0,.slice none 0 0,.pointer (some ⟨w.heap.size,0,none⟩),tv,sv,ov,.complex .f64 (fl (p:Int)) (fl (e:Int)),u 9,u 10,u 11,u 12,u 13,u 14,u 15,u 16,u 17,u 18,u 19,u 20,u 21,u 22,u 23,u 24,u 25,u 26,u 27,u 28,u 29,u 30,u 31,u 32,u 33,u 34,u 35,u 36,u 37,u 38,u 39,u 40,u 41,u 42,u 43,u 44,u 45,u 46,u 47,u 48,u 49,u 50,u 51,u 52,u 53,u 54,u 55,u 56,u 57,u 58,u 59,u 60,u 61,u 62,u 63,u 64,u 65,u 66,u 67,u 68,u 69,u 70,u 71,u 72,u 73,u 74,u 75,u 76,u 77,u 78,u 79,u 80,u 81,u 82,u 83,u 84,u 85,u 86,u 87,u 88,u 89,u 90,u 91,u 92,u 93,u 94,u 95,u 96,u 97,u 98,u 99,u 100,u 101,u 102,u 103,u 104,u 105,u 106,u 107,u 108,u 109,u 110,u 111,u 112,u 113,u 114,u 115,u 116,u 117,u 118,u 119,u 120,u 121,u 122,u 123,u 124,u 125,u 126,u 127,u 128,u 129,u 130,u 131,u 132,u 133,u 134,u 135,u 136,u 137,u 138,u 139,u 140,u 141,u 142,u 143,u 144,u 145,u 146],defers:=[] } /\ 0 < op.length /\ p < e /\ ns.length <= 1000 /\ op.length <= 16 /\ Hid (Since (w.alloc (.cells #[.int .i64 0,.int .i64 0] 65)) W) /\ Hid (Rw.Rows W (w.alloc (.cells #[.int .i64 0,.int .i64 0] 65)).heap.size (WRows tv sv ov ns sp op)) /\ Hid (Mid s (ns.map Prod.fst) sp op p e) /\ Hid (KL ns)
theorem jw_of {w:World} {s:ByteArray} {W:World} (T:Array Value) (tv sv ov:Value) (p e:Nat) (ns:List (Nd × Value)) (sp:List (Nat × Nat)) (op:List Nat)
   (hT:T = #[.string s,T.getD 1 undef,.slice none 0 0,.slice none 0 0,.pointer (some ⟨w.heap.size,0,none⟩),tv,sv,ov,.complex .f64 (fl (p:Int)) (fl (e:Int)),T.getD 9 undef,T.getD 10 undef,T.getD 11 undef,T.getD 12 undef,T.getD 13 undef,T.getD 14 undef,T.getD 15 undef,T.getD 16 undef,T.getD 17 undef,T.getD 18 undef,T.getD 19 undef,T.getD 20 undef,T.getD 21 undef,T.getD 22 undef,T.getD 23 undef,T.getD 24 undef,T.getD 25 undef,T.getD 26 undef,T.getD 27 undef,T.getD 28 undef,T.getD 29 undef,T.getD 30 undef,T.getD 31 undef,T.getD 32 undef,T.getD 33 undef,T.getD 34 undef,T.getD 35 undef,T.getD 36 undef,T.getD 37 undef,T.getD 38 undef,T.getD 39 undef,T.getD 40 undef,T.getD 41 undef,T.getD 42 undef,T.getD 43 undef,T.getD 44 undef,T.getD 45 undef,T.getD 46 undef,T.getD 47 undef,T.getD 48 undef,T.getD 49 undef,T.getD 50 undef,T.getD 51 undef,T.getD 52 undef,T.getD 53 undef,T.getD 54 undef,T.getD 55 undef,T.getD 56 undef,T.getD 57 undef,T.getD 58 undef,T.getD 59 undef,T.getD 60 undef,T.getD 61 undef,T.getD 62 undef,T.getD 63 undef,T.getD 64 undef,T.getD 65 undef,T.getD 66 undef,T.getD 67 undef,T.getD 68 undef,T.getD 69 undef,T.getD 70 undef,T.getD 71 undef,T.getD 72 undef,T.getD 73 undef,T.getD 74 undef,T.getD 75 undef,T.getD 76 undef,T.getD 77 undef,T.getD 78 undef,T.getD 79 undef,T.getD 80 undef,T.getD 81 undef,T.getD 82 undef,T.getD 83 undef,T.getD 84 undef,T.getD 85 undef,T.getD 86 undef,T.getD 87 undef,T.getD 88 undef,T.getD 89 undef,T.getD 90 undef,T.getD 91 undef,T.getD 92 undef,T.getD 93 undef,T.getD 94 undef,T.getD 95 undef,T.getD 96 undef,T.getD 97 undef,T.getD 98 undef,T.getD 99 undef,T.getD 100 undef,T.getD 101 undef,T.getD 102 undef,T.getD 103 undef,T.getD 104 undef,T.getD 105 undef,T.getD 106 undef,T.getD 107 undef,T.getD 108 undef,T.getD 109 undef,T.getD 110 undef,T.getD 111 undef,T.getD 112 undef,T.getD 113 undef,T.getD 114 undef,T.getD 115 undef,T.getD 116 undef,T.getD 117 undef,T.getD 118 undef,T.getD 119 undef,T.getD 120 undef,T.getD 121 undef,T.getD 122 undef,T.getD 123 undef,T.getD 124 undef,T.getD 125 undef,T.getD 126 undef,T.getD 127 undef,T.getD 128 undef,T.getD 129 undef,T.getD 130 undef,T.getD 131 undef,T.getD 132 undef,T.getD 133 undef,T.getD 134 undef,T.getD 135 undef,T.getD 136 undef,T.getD 137 undef,T.getD 138 undef,T.getD 139 undef,T.getD 140 undef,T.getD 141 undef,T.getD 142 undef,T.getD 143 undef,T.getD 144 undef,T.getD 145 undef,T.getD 146 undef])
   (h1:0 < op.length) (h2:p < e) (h3:ns.length <= 1000) (h4:op.length <= 16) (h5:Hid (Since (w.alloc (.cells #[.int .i64 0,.int .i64 0] 65)) W)) (h6:Hid (Rw.Rows W (w.alloc (.cells #[.int .i64 0,.int .i64 0] 65)).heap.size (WRows tv sv ov ns sp op)))
   (h7:Hid (Mid s (ns.map Prod.fst) sp op p e)) (h8:Hid (KL ns)):JW w s { tmps:=T,defers:=[] } W :=
 ⟨tv,sv,ov,p,e,ns,sp,op,fun i => T.getD i undef,congrArg (fun t => ({ tmps:=t,defers:=[] }:Act)) hT,h1,h2,h3,h4,h5,h6,h7,h8⟩
def muW (a:Act) (_:World):Nat:=1001 - lenOf (a.tmps.getD 5 undef)
set_option maxHeartbeats 16000000 in
theorem walk_loop (w:World) (s:ByteArray) (hs0:0 < s.size) (hs:s.size <= 65535) (hh1:Head.Hd) (k1:Nat) (hl1:look Strs.rightB s 0 s.size 1 0 = .ok (hh1,k1)) (hb1:hh1.b = true):Calls Tryz.prog 106 #[.string s] w (WPost w s):=by
 go_enter Tryz.func106,Tryz.ntmps106
 go_wp2_with fail;refine wp_scope_jumps 0 (JW w s) muW rfl ?_ ?_
 · obtain ⟨z,hz⟩:∃ z:Nat,z = 0:=⟨_,rfl⟩
   obtain ⟨hh,rfl⟩:∃ hh,hh1 = hh:=⟨_,rfl⟩
   obtain ⟨k,rfl⟩:∃ k,k1 = k:=⟨_,rfl⟩
   have lk:=look_ok hl1;have lk1:=lk.fit;have lk2:=lk.nm;have lk3:=lk.k7;have hq:Head.dec (s.extract z s.size).data.toList = (hh1,k1,0):=by rw [hz]; exact lk.hd
   have c0:Ret 82 #[.int .i64 0,.int .i64 (s.size:Int)] (.complex .f64 (fl (z:Int)) (fl (s.size:Int))):=by
     have h:=of_yes 0 s.size ⟨by omega,by omega⟩;rw [hz];exact h
   have c1:=meas_mak s z s.size (by omega) (Nat.le_refl _) hs;unfold measV at c1;rw [hq] at c1;dsimp only at c1;rw [if_neg (by decide),if_neg (by omega),hb1] at c1;obtain ⟨e2,he2⟩:∃ e2,e2 = z + (k1 + hh1.n):=⟨_,rfl⟩
   obtain ⟨p2,hp2⟩:∃ p2,p2 = z + k1:=⟨_,rfl⟩
   have c3:=total_ret k1 hh1.n (by omega) (by omega);have c4:=split_ret z s.size (k1 + hh1.n) (by omega) (by omega) e2 he2;have v1:∀ w,(convert 155 3 (.float .f64 (fl (k1:Int)))).run Tryz.prog w = .ok (.int .i64 (k1:Int)) w:=fun w => conv_fi (fl (k1:Int)) (k1:Int) (fl_is _ (by omega)) (by omega) w
   have c5:=split_ret z e2 k1 (by omega) (by omega) p2 hp2;have hj:judE (hh1.c:Int) (hh1.t:Int) true ⟨#[]⟩ 1 0 = 0:=by
     have h:=hl1;rw [look_dec _ _ _ _ _ _ _ _ lk.hd,if_neg (by decide),if_neg (by omega)] at h;have e1:judE (hh1.c:Int) (hh1.t:Int) hh1.b (datB s 0 k1 hh1) ((1:Nat):Int) ((0:Nat):Int) = judE (hh1.c:Int) (hh1.t:Int) true ⟨#[]⟩ 1 0:=by
       unfold datB;rw [hb1,if_pos rfl];rfl
     rw [e1] at h
     by_cases hj:judE (hh1.c:Int) (hh1.t:Int) true ⟨#[]⟩ 1 0 = 0
     · exact hj
     · rw [if_neg hj] at h; cases h
   have c7:=jud_mak (hh1.c:Int) (hh1.t:Int) true ⟨#[]⟩ 1 0 (by decide);rw [hj] at c7;have hM3:Mid s [⟨hh1.c,hh1.t,true,⟨#[]⟩,[]⟩] [(z,e2)] [0] p2 e2:=by
     have h:=mid_first_cons hs0 hs hh1 k1 hl1 hb1;rw [Nat.add_assoc,show 0 + (k1 + hh1.n) = e2 by omega,show 0 + k1 = p2 by omega] at h;rw [hz];exact h
   obtain ⟨M,P,Q,hlv⟩:∃ M P Q,lv (En [(z,e2)] [0]) s.size [0].length p2 e2 = (M,P,Q):=⟨_,_,_,rfl⟩
   obtain ⟨hMl,hMQ,hPQ⟩:=mid_leave hM3 hlv;have HMl:Hid (([0].take M).length = M):=lH (by rw [List.length_take]; exact Nat.min_eq_left hMl);have HMo:Hid (M <= 1):=lH hMl;have HMQ:=lH hMQ;have HPQ:=lH hPQ;have HLV:=lH hlv;have HM3:=lH hM3;have HSz:=lH hs;have e1:=ne_nil s (by omega);have h1:decide ((65535:Int) < (s.size:Int)) = false:=decide_eq_false (by omega);clear hz hq lk lk1 lk2 lk3 he2 hp2 hj hM3 hlv hMl hMQ hPQ hl1 hb1 hs0;go_wp2_with fail;refine c0.calls ?_;go_wp2_with fail
   go_step3
   go_wp2_with fail;refine c1.calls0 ?_;intro w1 h9;have HA:=lH (show Since (w.alloc (.cells #[.int .i64 0,.int .i64 0] 65)) w1 from h9);have HS1:=lH ((HA.out.alloc (.cells (H4 (hh1.c:Int) (hh1.t:Int) true (hh1.n:Int)) 115)).alloc (.cells #[.int .i64 (hh1.c:Int),.int .i64 (hh1.t:Int),.bool true,.string ⟨#[]⟩,.slice none 0 0] 87));have hp:=lH (hb_new w1 KT trivial (H4 (hh1.c:Int) (hh1.t:Int) true (hh1.n:Int)) 115);unfold H4 at HS1 hp ⊢;obtain ⟨_,m0,m1,m2,m3⟩:=hb4 hp;clear h9;go_wp2_with fail;refine c3.calls ?_;go_wp2_with fail;refine c4.calls ?_;go_wp2_with fail;refine c5.calls ?_;go_wp2_with fail;refine c7.calls0 ?_;intro w5 h5;have HS5:=lH (HS1.out.step h5);have hn5:=lH ((hr_two w w1 #[.int .i64 (hh1.c:Int),.int .i64 (hh1.t:Int),.bool true,.int .i64 (hh1.n:Int)] #[.int .i64 (hh1.c:Int),.int .i64 (hh1.t:Int),.bool true,.string ⟨#[]⟩,.slice none 0 0] 115 87).step h5);have hd5:=lH ((hr_old (w:=w) ⟨heap_alloc_new w1 (.cells #[.int .i64 (hh1.c:Int),.int .i64 (hh1.t:Int),.bool true,.int .i64 (hh1.n:Int)] 115)⟩ (.cells #[.int .i64 (hh1.c:Int),.int .i64 (hh1.t:Int),.bool true,.string ⟨#[]⟩,.slice none 0 0] 87)).step h5);have n0:=hr_cell hn5.out 0 _ rfl;have n1:=hr_cell hn5.out 1 _ rfl;have n2:=hr_cell hn5.out 2 _ rfl;have n3:=hr_cell hn5.out 3 _ rfl;have n4:=hr_cell hn5.out 4 _ rfl;have HR5:Hid (Rw.Rows w5 (w.alloc (.cells #[.int .i64 0,.int .i64 0] 65)).heap.size ([] ++ ⟨87,5,.slice none 0 0,0,[]⟩ :: ((WRows (.slice none 0 0) (.slice none 0 0) (.slice none 0 0) [] [] []).drop 1))):=lH ((((Rw.Rows.nil _ _).add_nil _ _).add_nil _ _).add_nil _ _);clear h5 m0 m1 m2 m3 hp HA;go_wp2_with (first
     | (at_builtin; refine app_rows elemN rfl _ _ (by rfl) (w.alloc (.cells #[.int .i64 0,.int .i64 0] 65)) w5 _ rfl [] _ _ 0 [] (by rfl) HR5.out HS5.out #[.int .i64 (hh1.c:Int),.int .i64 (hh1.t:Int),.bool true,.string ⟨#[]⟩,.slice none 0 0] 1 1 (by rfl) rfl (by intro u hu; simp at hu; rcases hu with rfl | rfl | rfl | rfl | rfl <;> rfl) (by decide) (by decide) ?_; intro tv2 w8 HQ3 HT3 hk3; obtain ⟨ta,tc,rfl⟩:∃ A c,tv2 = .slice A 1 c:=own_any HQ3.get; have h8:Rw.Rows w8 _ (WRows _ _ _ [(⟨hh1.c,hh1.t,true,⟨#[]⟩,[]⟩,.slice none 0 0)] [] []):=rows_node2 (ns:=[]) 0 rfl _ _ _ _ HQ3; rw [rows_span] at h8; have HR8:=lH h8; have HS8:=lH HT3; have hd8:=lH (HR.keptV hd5.out hk3 (by intro e; cases e)); clear HQ3 HT3 hk3 h8 n0 n1 n2 n3 n4)
     | (at_builtin; refine app_rows elemC rfl _ _ (by rfl) (w.alloc (.cells #[.int .i64 0,.int .i64 0] 65)) w8 _ rfl [_] _ (.slice none 0 0) 0 _ (by rfl) HR8.out HS8.out #[.complex .f64 (fl (z:Int)) (fl (e2:Int))] 1 1 (by rfl) rfl (by intro u hu; simp at hu; subst hu; rfl) (by decide) (by decide) ?_; intro sv2 w9 HQ4 HT4 hk4; obtain ⟨sa,sc,rfl⟩:∃ A c,sv2 = .slice A 1 c:=own_any HQ4.get; have h9:Rw.Rows w9 _ (WRows _ _ _ [(⟨hh1.c,hh1.t,true,⟨#[]⟩,[]⟩,.slice none 0 0)] [(z,e2)] []):=rows_span3 (sp:=[]) HQ4; rw [rows_open] at h9; have HR9:=lH h9; have HS9:=lH HT4; have hd9:=lH (HR.keptV hd8.out hk4 (by intro e; cases e)); have m2:=hr_cell hd9.out 2 _ rfl; clear HQ4 HT4 hk4 h9)
     | (at_builtin; refine app_rows elemT rfl _ _ (by rfl) (w.alloc (.cells #[.int .i64 0,.int .i64 0] 65)) w9 _ rfl [_,_] _ (.slice none 0 0) 0 _ (by rfl) HR9.out HS9.out #[.int .i64 0] 1 1 (by rfl) rfl (by intro v hv; simp at hv; subst hv; rfl) (by decide) (by decide) ?_; intro ov2 w10 HQ5 HT5 hk5; obtain ⟨va,vc,rfl⟩:∃ A c,ov2 = .slice A 1 c:=own_any HQ5.get; have HR10:Hid (Rw.Rows w10 _ (WRows _ _ _ [(⟨hh1.c,hh1.t,true,⟨#[]⟩,[]⟩,.slice none 0 0)] [(z,e2)] [0])):=lH (rows_open3 (op:=[]) (i:=0) HQ5); have HS10:=lH HT5; clear HQ5 HT5 hk5))
   refine (leave_rows w10 _ _ _ _ _ _ _ s p2 e2 HR10.out HM3.out HSz.out (by simp) M P Q HLV.out).mono ?_;rintro _ _ ⟨ov3,rfl,rfl,hR10⟩;obtain ⟨oa,oc,rfl⟩:∃ A c,ov3 = .slice A M c:=by
     have h:=own_any (own_ov hR10);rw [HMl.out] at h;exact h
   have HRE:=lH hR10;have HKE:=lH (kl_one ((⟨hh1.c,hh1.t,true,⟨#[]⟩,[]⟩,.slice none 0 0):Nd × Value) rfl);have HNE:=lH (show [((⟨hh1.c,hh1.t,true,⟨#[]⟩,[]⟩,.slice none 0 0):Nd × Value)].map Prod.fst = [⟨hh1.c,hh1.t,true,⟨#[]⟩,[]⟩] from rfl);clear hR10 m2
   by_cases hM0:M = 0
   · subst hM0;have q8:decide (0 < 0) = false:=rfl;have c9:=from_ret P Q ⟨HMQ.out.pe,by have:=HMQ.out.es; omega⟩;have hG:=good_end HMQ.out.good
     by_cases hP:P < s.size
     · have q9:decide (P < s.size) = true:=decide_eq_true hP;have HW:=lH (fun w' h => wpost_err (w:=w) (w':=w') (hG.1 hP) h);clear hG hP;have hr0:=lH (HR.step (w:=w) ⟨heap_alloc_new w _⟩ HS10.out);have HS:=lH ((Since.alloc (Since.refl w) _).step HS10.out);go_wp2_with fail;refine c9.calls ?_;go_wp2_with fail;refine c9.calls ?_;go_wp2_with (refine wpList_store_row rfl 65 _ _ rfl w.heap.size (F2 5 (P:Int)) (by rfl) (by rfl) _ _ hr0.out.row (f2_info 5 (P:Int)) rfl (f2_one 5 (P:Int)) ?_)
       simp only [Exit.jump];exact bodyPost_ret (v:=fltV 5 (P:Int)) (results_tt_cell Tryz.results106 _ _ _ _ _ _ _ _ _ rfl rfl rfl (setRow_heap _ _ _ _ _ _ hr0.out.row) Tryz.underlying65 rfl (f2_info 5 (P:Int))) rfl (HW.out _ (below_setRow HS.out (Nat.le_refl _) _))
     · have q9:decide (P < s.size) = false:=decide_eq_false hP;have HG:=lH (hG.2 hP);clear hG hP;have hr0:=lH (HR.step (w:=w) ⟨heap_alloc_new w _⟩ HS10.out);have HS:=lH ((Since.alloc (Since.refl w) _).step HS10.out);go_wp2_with fail;refine c9.calls ?_;go_wp2_with (refine wpList_store_row rfl 65 _ _ rfl w.heap.size (F2 0 0) (by rfl) (by rfl) _ _ hr0.out.row (f2_info 0 0) rfl (f2_one 0 0) ?_)
       simp only [Exit.jump];have hself:w10.setRow w.heap.size (F2 0 0) = w10:=setRow_self _ _ _ _ _ hr0.out.row;rw [hself];refine bodyPost_ret (v:=.tuple #[.slice ta 1 tc,.slice sa 1 sc,.agg (F2 0 0)]) (results_tt_cell Tryz.results106 _ _ _ _ _ _ _ _ _ rfl rfl rfl hr0.out.row Tryz.underlying65 rfl (f2_info 0 0)) rfl ?_;obtain ⟨g,e1,e2,e3⟩:=HG.out;unfold WPost;rw [e1];refine ⟨.slice ta 1 tc,.slice sa 1 sc,.slice oa 0 oc,[(⟨hh1.c,hh1.t,true,⟨#[]⟩,[]⟩,.slice none 0 0)],rfl, ?_,HNE.out.trans e2,HS.out⟩;rw [<- e3];exact HRE.out
   · have q8:decide ((0:Int) < (M:Int)) = true:=decide_eq_true (by omega);have q9:decide (0 < M) = true:=decide_eq_true (by omega);have hM0':0 < M:=by omega
     have HSE:=lH HS10.out;have HM16:Hid (M <= 16):=lH (by have:=HMo.out; omega);go_wp2_with fail
     go_step3
     exact ⟨rfl,jw_of _ _ _ _ P Q _ _ _ (by kernel_rfl) (by rw [HMl.out]; exact hM0') (HPQ.out hM0') (by simp) (by rw [HMl.out]; exact HM16.out) (lH HSE.out) HRE (lH HMQ.out) HKE⟩
 · rintro a' W ⟨tv,sv,ov,p,e,ns,sp,op,u,rfl,ho,hpe,hn,hd,HS0,HRW,HM,HKL⟩;obtain ⟨hh,k,x,hq⟩:∃ hh k x,Head.dec (s.extract p e).data.toList = (hh,k,x):=⟨_,_,_,rfl⟩
   have hes:=HM.out.es;have c1:=meas_mak s p e (by omega) hes hs;have c2:=from_ret p e ⟨by omega,by omega⟩;unfold measV at c1;rw [hq] at c1;dsimp only at c1
   by_cases hx:x ≠ 0
   · rw [if_pos hx] at c1;have ht:top Strs.rightB s = .error (x,p):=mid_err HM.out ho hpe x (by rw [look_dec _ _ _ _ _ _ _ _ hq,if_pos hx]);have hx9:x ≠ 0:=hx;obtain ⟨X,hX⟩:∃ X:Int,X = ((x:Nat):Int):=⟨_,rfl⟩
     have c3:Mak 85 #[.string s,.complex .f64 (fl (p:Int)) (fl (e:Int))] (.tuple #[.agg Z4,.complex .f64 0 0,.int .i64 X]):=by rw [hX]; exact c1
     have hX0:(X != 0) = true:=by rw [bne_iff_ne]; omega
     have hW:∀ w',Since w w' -> WPost w s (.returned (fltV X (p:Int))) w':=by rw [hX]; exact fun w' h => wpost_err ht h
     clear hX hx9 ht c1;have HW:=lH hW;clear hW;go_wp2_with fail;refine c3.calls0 ?_;intro w1 h9;have HS1:=lH ((HS0.out.step h9).alloc (.cells Z4 115));clear h9;unfold Z4 at HS1 ⊢;have hr0:=lH (HR.step (w:=w) ⟨heap_alloc_new w _⟩ HS1.out);have HS:=lH ((Since.alloc (Since.refl w) _).step HS1.out);go_wp2_with fail;refine c2.calls ?_;go_wp2_with (refine wpList_store_row rfl 65 _ _ rfl w.heap.size (F2 X (p:Int)) (by rfl) (by rfl) _ _ hr0.out.row (f2_info X (p:Int)) rfl (f2_one X (p:Int)) ?_)
     simp only [Exit.jump];exact bodyPost_ret (v:=fltV X (p:Int)) (results_tt_cell Tryz.results106 _ _ _ _ _ _ _ _ _ rfl rfl rfl (setRow_heap _ _ _ _ _ _ hr0.out.row) Tryz.underlying65 rfl (f2_info X (p:Int))) rfl (HW.out _ (below_setRow HS.out (Nat.le_refl _) _))
   rw [if_neg hx] at c1
   by_cases hf:e - p < k + hh.n
   · rw [if_pos hf] at c1;have ht:top Strs.rightB s = .error (5,p):=mid_err HM.out ho hpe 5 (by rw [look_dec _ _ _ _ _ _ _ _ hq,if_neg hx,if_pos hf]);have hx9:5 ≠ 0:=by decide
     obtain ⟨X,hX⟩:∃ X:Int,X = ((5:Nat):Int):=⟨_,rfl⟩
     have c3:Mak 85 #[.string s,.complex .f64 (fl (p:Int)) (fl (e:Int))] (.tuple #[.agg Z4,.complex .f64 0 0,.int .i64 X]):=by rw [hX]; exact c1
     have hX0:(X != 0) = true:=by rw [bne_iff_ne]; omega
     have hW:∀ w',Since w w' -> WPost w s (.returned (fltV X (p:Int))) w':=by rw [hX]; exact fun w' h => wpost_err ht h
     clear hX hx9 ht c1;have HW:=lH hW;clear hW;go_wp2_with fail;refine c3.calls0 ?_;intro w1 h9;have HS1:=lH ((HS0.out.step h9).alloc (.cells Z4 115));clear h9;unfold Z4 at HS1 ⊢;have hr0:=lH (HR.step (w:=w) ⟨heap_alloc_new w _⟩ HS1.out);have HS:=lH ((Since.alloc (Since.refl w) _).step HS1.out);go_wp2_with fail;refine c2.calls ?_;go_wp2_with (refine wpList_store_row rfl 65 _ _ rfl w.heap.size (F2 X (p:Int)) (by rfl) (by rfl) _ _ hr0.out.row (f2_info X (p:Int)) rfl (f2_one X (p:Int)) ?_)
     simp only [Exit.jump];exact bodyPost_ret (v:=fltV X (p:Int)) (results_tt_cell Tryz.results106 _ _ _ _ _ _ _ _ _ rfl rfl rfl (setRow_heap _ _ _ _ _ _ hr0.out.row) Tryz.underlying65 rfl (f2_info X (p:Int))) rfl (HW.out _ (below_setRow HS.out (Nat.le_refl _) _))
   · rw [if_neg hf] at c1;obtain rfl:x = 0:=by omega
     obtain ⟨g1,g2,g3,g4,g5⟩:=Head.enc_dec _ _ _ hq;have gl:(Head.encL hh.c hh.t hh.b hh.n).length = k:=by rw [g5,List.length_take]; omega
     have gk:=(Head.encL_len hh.c hh.t hh.b hh.n).1;have c3:=total_ret k hh.n (by omega) (by omega);obtain ⟨e2,he2⟩:∃ e2,e2 = p + (k + hh.n):=⟨_,rfl⟩
     obtain ⟨p2,hp2⟩:∃ p2,p2 = p + k:=⟨_,rfl⟩
     have c4:=split_ret p e (k + hh.n) (by omega) (by omega) e2 he2;have v1:∀ w,(convert 155 3 (.float .f64 (fl (k:Int)))).run Tryz.prog w = .ok (.int .i64 (k:Int)) w:=fun w => conv_fi (fl (k:Int)) (k:Int) (fl_is _ (by omega)) (by omega) w
     have c5:=split_ret p e2 k (by omega) (by omega) p2 hp2;have c6:=cut_pe s p2 e2 (by omega) (by omega) hs;obtain ⟨go,co,rfl,hco,hcm⟩:=own_form (own_ov HRW.out) ho;have hnl:0 < ns.length:=by have:=HM.out.occ (op.getD 0 0) (by simp [List.getD,ho]); rw [List.length_map] at this; omega
     obtain ⟨gt,ct,rfl,hct,hctm⟩:=own_form (own_tv HRW.out) hnl;have hd2:(op.length:Int) <= 16:=by omega
     have hd3:(0:Int) <= (op.length:Int):=by omega
     have hwr:IntKind.i64.wrap ((op.length:Int) + 1) = (op.length:Int) + 1:=IntWalk.i64_in _ (by omega);obtain ⟨D,hD⟩:∃ D,D = s.extract p2 e2:=⟨_,rfl⟩
     rw [<- hD] at c6;have hDs:D.size <= 1000000:=by rw [hD,ByteArray.size_extract]; omega
     cases hb:hh.b with
     | true =>
       rw [hb] at c1;have c7:=jud_mak (hh.c:Int) (hh.t:Int) true ⟨#[]⟩ ((op.length:Int) + 1) (ns.length:Int) (by decide);generalize hE:judE (hh.c:Int) (hh.t:Int) true ⟨#[]⟩ ((op.length:Int) + 1) (ns.length:Int) = E at c7
       by_cases hE0:E = 0
       · have hl:look Strs.rightB s p e (op.length + 1) (ns.map Prod.fst).length = .ok (hh,k):=by
           rw [look_dec _ _ _ _ _ _ _ _ hq,if_neg hx,if_neg hf];have e1:judE (hh.c:Int) (hh.t:Int) hh.b (datB s p k hh) ((op.length + 1:Nat):Int) (((ns.map Prod.fst).length:Nat):Int) = E:=by
             unfold datB;rw [hb,List.length_map,if_pos rfl,<- hE];rfl
           rw [e1,if_pos hE0]
         have lk:=look_ok hl;have lk1:=lk.cnt;have lk2:=lk.deep;rw [List.length_map] at lk1;obtain ⟨m,hm⟩:∃ m,op.length = m + 1:=⟨op.length - 1,by omega⟩
         obtain ⟨O,hO⟩:∃ O,op.getD m 0 = O:=⟨_,rfl⟩
         have hO2:op.getD (op.length - 1) 0 = O:=by rw [hm,Nat.add_sub_cancel]; exact hO
         have hOn:O < ns.length:=by
           have h9:=HM.out.occ (op.getD m 0) (by simp [List.getD,show m < op.length by omega]);rw [List.length_map,hO] at h9;exact h9
         have hOc:(op.map (fun i:Nat => Value.int .i64 (i:Int)))[m]? = some (.int .i64 (O:Int)):=by
           rw [<- hO];simp [List.getD,show m < op.length by omega]
         obtain ⟨⟨nd,kv⟩,hnd⟩:∃ x,ns[O]? = some x:=⟨_,List.getElem?_eq_getElem hOn⟩
         have hkl:nd.k.length <= ns.length:=HKL.out O _ hnd;have hspl:sp.length = ns.length:=by have:=HM.out.len; rw [List.length_map] at this; exact this
         have hM3:=mid_cons HM.out ho hpe hh k hl hb;rw [hO2,List.length_map,Nat.add_assoc,<- he2,<- hp2] at hM3;obtain ⟨M,P,Q,hlv⟩:∃ M P Q,lv (En (sp ++ [(p,e2)]) (op ++ [ns.length])) s.size (op ++ [ns.length]).length p2 e2 = (M,P,Q):=⟨_,_,_,rfl⟩
         obtain ⟨hMl,hMQ,hPQ⟩:=mid_leave hM3 hlv;have HMl:Hid (((op ++ [ns.length]).take M).length = M):=lH (by rw [List.length_take]; omega);have HMo:Hid (M <= op.length + 1):=lH (by first | omega | (rw [List.length_append,List.length_singleton] at hMl; omega));have HMQ:=lH hMQ;have HPQ:=lH hPQ;have HLV:=lH hlv;have HM3:=lH hM3;have HSz:=lH hs;have HB1:Hid (nd.k.length + 1 <= maxLen):=lH (by unfold maxLen; omega);have HB2:Hid ((nd.k.length + 1) * 8 <= 140737488355328):=lH (by omega);have HB3:Hid (ns.length + 1 <= maxLen):=lH (by unfold maxLen; omega);have HB4:Hid ((ns.length + 1) * 64 <= 140737488355328):=lH (by omega);have HB5:Hid (O * 5 + 4 < ns.length * 5):=lH (by omega);have HB6:Hid (sp.length + 1 <= maxLen):=lH (by unfold maxLen; omega);have HB7:Hid ((sp.length + 1) * 16 <= 140737488355328):=lH (by omega);have HB8:Hid (ns.length + 1 <= 1000):=lH (by omega);have HB9:Hid (op.length + 1 <= maxLen):=lH (by unfold maxLen; omega);have HB10:Hid ((op.length + 1) * 8 <= 140737488355328):=lH (by omega);obtain ⟨A,B,hK1,hK2⟩:∃ A B,WRows (.slice (some ⟨gt,0,none⟩) ns.length ct) sv (.slice (some ⟨go,0,none⟩) op.length co) ns sp op = A ++ ⟨3,1,kv,nd.k.length,nd.k.map (Value.int .i64)⟩ :: B /\
             ∀ kv2 w',Rw.Rows w' (w.alloc (.cells #[.int .i64 0,.int .i64 0] 65)).heap.size (A ++ ⟨3,1,kv2,nd.k.length + 1,nd.k.map (Value.int .i64) ++ [.int .i64 (ns.length:Int)]⟩ :: B) -> Rw.Rows w' (w.alloc (.cells #[.int .i64 0,.int .i64 0] 65)).heap.size ([] ++ ⟨87,5,.slice (some ⟨gt,0,none⟩) ns.length ct,ns.length,ns.flatMap nc⟩ :: ((WRows (.slice (some ⟨gt,0,none⟩) ns.length ct) sv (.slice (some ⟨go,0,none⟩) op.length co) (addV ns O [(ns.length:Int)] kv2) sp op).drop 1)) :=
           ⟨_,_,rows_kid hnd,fun kv2 w' h => rows_kid2 hnd _ ▸ h⟩
         have HK1:=lH hK1;have HK2:=lH hK2;have q1:decide ((0:Int) < (op.length:Int)) = true:=decide_eq_true (by omega);have q2:decide (0 < op.length) = true:=decide_eq_true (by omega);have q3:(op.length:Int) - 1 = (m:Int):=by omega
         have q4:(m:Int) < (op.length:Int):=by omega
         have q5:(0:Int) <= (m:Int):=by omega
         have q6:(O:Int) < (ns.length:Int):=by omega
         have q7:(0:Int) <= (O:Int):=by omega
         obtain rfl:E = 0:=hE0;have HL:=lH hl;have HOp:=lH hm;have HOc:=lH hOc;have HNd:=lH hnd;have HOe:=lH hO;have HD:=lH hD;have HB0:=lH hOn;clear hE hl hm hOc hnd hO hD hq lk hO2 hspl hM3 hlv hMl hMQ hPQ hK1 hK2 he2 hp2 hkl hOn;go_wp2_with fail;refine c1.calls0 ?_;intro w1 h9;have hW9:=lH (show Since W w1 from h9);have HA:=lH (HS0.out.step h9);have HS1:=lH ((HA.out.alloc (.cells (H4 (hh.c:Int) (hh.t:Int) true (hh.n:Int)) 115)).alloc (.cells #[.int .i64 (hh.c:Int),.int .i64 (hh.t:Int),.bool true,.string ⟨#[]⟩,.slice none 0 0] 87));have hp:=lH (hb_new w1 KT trivial (H4 (hh.c:Int) (hh.t:Int) true (hh.n:Int)) 115);unfold H4 at HS1 hp ⊢;obtain ⟨_,m0,m1,m2,m3⟩:=hb4 hp;clear h9;go_wp2_with fail;refine c3.calls ?_;go_wp2_with fail;refine c4.calls ?_;go_wp2_with fail;refine c5.calls ?_;go_wp2_with fail;refine c7.calls0 ?_;intro w5 h5;have HS5:=lH (HS1.out.step h5);have hn5:=lH ((hr_two w w1 #[.int .i64 (hh.c:Int),.int .i64 (hh.t:Int),.bool true,.int .i64 (hh.n:Int)] #[.int .i64 (hh.c:Int),.int .i64 (hh.t:Int),.bool true,.string ⟨#[]⟩,.slice none 0 0] 115 87).step h5);have hd5:=lH ((hr_old (w:=w) ⟨heap_alloc_new w1 (.cells #[.int .i64 (hh.c:Int),.int .i64 (hh.t:Int),.bool true,.int .i64 (hh.n:Int)] 115)⟩ (.cells #[.int .i64 (hh.c:Int),.int .i64 (hh.t:Int),.bool true,.string ⟨#[]⟩,.slice none 0 0] 87)).step h5);have hR5:=lH (HRW.out.since (((hW9.out.alloc (.cells #[.int .i64 (hh.c:Int),.int .i64 (hh.t:Int),.bool true,.int .i64 (hh.n:Int)] 115)).alloc (.cells #[.int .i64 (hh.c:Int),.int .i64 (hh.t:Int),.bool true,.string ⟨#[]⟩,.slice none 0 0] 87)).step h5));have hWs:W.heap.size <= w1.heap.size:=Below.size hW9.out;have hR5k:=hR5.out;rw [HK1.out] at hR5k;have hRWk:=HRW.out;rw [HK1.out] at hRWk;have bk:=lH (fun g (hg:w1.heap.size <= g) => own_lt hRWk.get (Nat.le_trans hWs hg));have bt:=lH (fun g (hg:w1.heap.size <= g) => own_lt (own_tv HRW.out) (Nat.le_trans hWs hg));have bs:=lH (fun g (hg:w1.heap.size <= g) => own_lt (own_sv HRW.out) (Nat.le_trans hWs hg));have HR5:=lH hR5k;have o1:=((own_cells (own_ov hR5.out)).2.2 m (.int .i64 (O:Int)) HOc.out).1;have o2:=((own_cells (own_tv hR5.out)).2.2 (O * 5 + 4) kv (nc_at ns O _ HNd.out 4 kv rfl)).1;clear h5 m0 m1 m2 m3 hR5k hRWk hWs;go_wp2_with (first
           | (at_builtin; refine app_rows elemT rfl _ _ (by rfl) (w.alloc (.cells #[.int .i64 0,.int .i64 0] 65)) w5 _ rfl A B kv nd.k.length (nd.k.map (Value.int .i64)) (by rfl) HR5.out HS5.out #[.int .i64 (ns.length:Int)] 1 1 (by rfl) rfl (by intro v hv; simp at hv; subst hv; rfl) HB1.out HB2.out ?_; intro kv2 w6 HQ1 HT1 hk1; obtain ⟨ka,kc,rfl⟩:∃ A c,kv2 = .slice A (nd.k.length + 1) c:=own_any HQ1.get; have HR6:=lH (HK2.out _ _ HQ1); have HS6:=lH HT1; have hn6:=lH (HR.keptV hn5.out hk1 (bk.out _ (Nat.le_succ _))); have hd6:=lH (HR.keptV hd5.out hk1 (bk.out _ (Nat.le_refl _))); clear HQ1 HT1 hk1 o1 o2)
           | (refine store_rows rfl 44 _ _ (by rfl) intl_one (w.alloc (.cells #[.int .i64 0,.int .i64 0] 65)) w6 [] _ 87 5 gt ns.length ct (ns.flatMap nc) HR6.out HS6.out (O * 5 + 4) HB5.out (by rfl) (.slice ka (nd.k.length + 1) kc) (by rfl) rfl ?_; intro w7 HQ2 HT2 hk2; rw [nc_set ns O [(ns.length:Int)] _ HB0.out] at HQ2; obtain ⟨ns2,hns2⟩:∃ ns2,ns2 = addV ns O [(ns.length:Int)] (.slice ka (nd.k.length + 1) kc):=⟨_,rfl⟩; have HN2:=lH hns2; rw [<- hns2] at HQ2; have HR7:=lH HQ2; have HS7:=lH HT2; have hn7:=lH (HR.keptV hn6.out hk2 (bt.out _ (Nat.le_succ _))); have hd7:=lH (HR.keptV hd6.out hk2 (bt.out _ (Nat.le_refl _))); have n0:=hr_cell hn7.out 0 _ rfl; have n1:=hr_cell hn7.out 1 _ rfl; have n2:=hr_cell hn7.out 2 _ rfl; have n3:=hr_cell hn7.out 3 _ rfl; have n4:=hr_cell hn7.out 4 _ rfl; clear HQ2 HT2 hk2 hns2)
           | (at_builtin; refine app_rows elemN rfl _ _ (by rfl) (w.alloc (.cells #[.int .i64 0,.int .i64 0] 65)) w7 _ rfl [] _ _ ns.length (ns2.flatMap nc) (by rfl) HR7.out HS7.out #[.int .i64 (hh.c:Int),.int .i64 (hh.t:Int),.bool true,.string ⟨#[]⟩,.slice none 0 0] 1 1 (by rfl) rfl (by intro u hu; simp at hu; rcases hu with rfl | rfl | rfl | rfl | rfl <;> rfl) HB3.out HB4.out ?_; intro tv2 w8 HQ3 HT3 hk3; obtain ⟨ta,tc,rfl⟩:∃ A c,tv2 = .slice A (ns.length + 1) c:=own_any HQ3.get; have h8:=rows_node2 ns.length (by rw [HN2.out,addV_len]) _ _ _ _ HQ3; rw [rows_span] at h8; have HR8:=lH h8; have HS8:=lH HT3; have hd8:=lH (HR.keptV hd7.out hk3 (bt.out _ (Nat.le_refl _))); clear HQ3 HT3 hk3 h8 n0 n1 n2 n3 n4)
           | (at_builtin; refine app_rows elemC rfl _ _ (by rfl) (w.alloc (.cells #[.int .i64 0,.int .i64 0] 65)) w8 _ rfl [_] _ sv sp.length _ (by rfl) HR8.out HS8.out #[.complex .f64 (fl (p:Int)) (fl (e2:Int))] 1 1 (by rfl) rfl (by intro u hu; simp at hu; subst hu; rfl) HB6.out HB7.out ?_; intro sv2 w9 HQ4 HT4 hk4; obtain ⟨sa,sc,rfl⟩:∃ A c,sv2 = .slice A (sp.length + 1) c:=own_any HQ4.get; have h9:=rows_span3 HQ4; rw [rows_open] at h9; have HR9:=lH h9; have HS9:=lH HT4; have hd9:=lH (HR.keptV hd8.out hk4 (bs.out _ (Nat.le_refl _))); have m2:=hr_cell hd9.out 2 _ rfl; clear HQ4 HT4 hk4 h9)
           | (at_builtin; refine app_rows elemT rfl _ _ (by rfl) (w.alloc (.cells #[.int .i64 0,.int .i64 0] 65)) w9 _ rfl [_,_] _ (.slice (some ⟨go,0,none⟩) op.length co) op.length _ (by rfl) HR9.out HS9.out #[.int .i64 (ns.length:Int)] 1 1 (by rfl) rfl (by intro v hv; simp at hv; subst hv; rfl) HB9.out HB10.out ?_; intro ov2 w10 HQ5 HT5 hk5; obtain ⟨va,vc,rfl⟩:∃ A c,ov2 = .slice A (op.length + 1) c:=own_any HQ5.get; have HR10:=lH (rows_open3 HQ5); have HS10:=lH HT5; clear HQ5 HT5 hk5))
         refine (leave_rows w10 _ _ _ _ _ _ _ s p2 e2 HR10.out (by rw [HN2.out,List.map_append,addV_fst]; exact HM3.out) HSz.out (by rw [List.length_append,HN2.out,addV_len]; exact HB8.out) M P Q HLV.out).mono ?_;rintro _ _ ⟨ov3,rfl,rfl,hR10⟩;obtain ⟨oa,oc,rfl⟩:∃ A c,ov3 = .slice A M c:=by
           have h:=own_any (own_ov hR10);rw [HMl.out] at h;exact h
         have HRE:=lH hR10;have HKE:=lH (show KL (ns2 ++ [(⟨hh.c,hh.t,true,⟨#[]⟩,[]⟩,.slice none 0 0)]) by rw [HN2.out]; exact kl_grow HKL.out _ _ _ _ rfl);have HNE:=lH (show (ns2 ++ [((⟨hh.c,hh.t,true,⟨#[]⟩,[]⟩,.slice none 0 0):Nd × Value)]).map Prod.fst = addK (ns.map Prod.fst) O [(ns.length:Int)] ++ [⟨hh.c,hh.t,true,⟨#[]⟩,[]⟩] by rw [HN2.out,List.map_append,addV_fst]; rfl);have HLE:=lH (show (ns2 ++ [((⟨hh.c,hh.t,true,⟨#[]⟩,[]⟩,.slice none 0 0):Nd × Value)]).length = ns.length + 1 by rw [List.length_append,HN2.out,addV_len]; rfl);clear hR10 m2
         by_cases hM0:M = 0
         · subst hM0;have q8:decide (0 < 0) = false:=rfl;have c9:=from_ret P Q ⟨HMQ.out.pe,by have:=HMQ.out.es; omega⟩;have hG:=good_end HMQ.out.good
           by_cases hP:P < s.size
           · have q9:decide (P < s.size) = true:=decide_eq_true hP;have HW:=lH (fun w' h => wpost_err (w:=w) (w':=w') (hG.1 hP) h);clear hG hP;have hr0:=lH (HR.step (w:=w) ⟨heap_alloc_new w _⟩ HS10.out);have HS:=lH ((Since.alloc (Since.refl w) _).step HS10.out);go_wp2_with fail;refine c9.calls ?_;go_wp2_with fail;refine c9.calls ?_;go_wp2_with (refine wpList_store_row rfl 65 _ _ rfl w.heap.size (F2 5 (P:Int)) (by rfl) (by rfl) _ _ hr0.out.row (f2_info 5 (P:Int)) rfl (f2_one 5 (P:Int)) ?_)
             simp only [Exit.jump];exact bodyPost_ret (v:=fltV 5 (P:Int)) (results_tt_cell Tryz.results106 _ _ _ _ _ _ _ _ _ rfl rfl rfl (setRow_heap _ _ _ _ _ _ hr0.out.row) Tryz.underlying65 rfl (f2_info 5 (P:Int))) rfl (HW.out _ (below_setRow HS.out (Nat.le_refl _) _))
           · have q9:decide (P < s.size) = false:=decide_eq_false hP;have HG:=lH (hG.2 hP);clear hG hP;have hr0:=lH (HR.step (w:=w) ⟨heap_alloc_new w _⟩ HS10.out);have HS:=lH ((Since.alloc (Since.refl w) _).step HS10.out);go_wp2_with fail;refine c9.calls ?_;go_wp2_with (refine wpList_store_row rfl 65 _ _ rfl w.heap.size (F2 0 0) (by rfl) (by rfl) _ _ hr0.out.row (f2_info 0 0) rfl (f2_one 0 0) ?_)
             simp only [Exit.jump];have hself:w10.setRow w.heap.size (F2 0 0) = w10:=setRow_self _ _ _ _ _ hr0.out.row;rw [hself];refine bodyPost_ret (v:=.tuple #[.slice ta (ns.length + 1) tc,.slice sa (sp.length + 1) sc,.agg (F2 0 0)]) (results_tt_cell Tryz.results106 _ _ _ _ _ _ _ _ _ rfl rfl rfl hr0.out.row Tryz.underlying65 rfl (f2_info 0 0)) rfl ?_;obtain ⟨g,e1,e2,e3⟩:=HG.out;unfold WPost;rw [e1];refine ⟨.slice ta (ns.length + 1) tc,.slice sa (sp.length + 1) sc,.slice oa 0 oc,ns2 ++ [(⟨hh.c,hh.t,true,⟨#[]⟩,[]⟩,.slice none 0 0)],rfl, ?_,HNE.out.trans e2,HS.out⟩;rw [<- e3];exact HRE.out
         · have q8:decide ((0:Int) < (M:Int)) = true:=decide_eq_true (by omega);have q9:decide (0 < M) = true:=decide_eq_true (by omega);have hM0':0 < M:=by omega
           have HSE:=lH HS10.out;have HM16:Hid (M <= 16):=lH (by have:=HMo.out; omega);go_wp2_with fail
           go_step3
           exact ⟨rfl,jw_of _ _ _ _ P Q _ _ _ (by kernel_rfl) (by rw [HMl.out]; exact hM0') (HPQ.out hM0') (by rw [HLE.out]; exact HB8.out) (by rw [HMl.out]; exact HM16.out) (lH HSE.out) HRE (lH (by rw [HNE.out]; exact HMQ.out)) HKE,by show 1001 - (ns.length + 1) < 1001 - ns.length; omega⟩
       have hE1:(E != 0) = true:=by rw [bne_iff_ne]; exact hE0
       have hEn:(E.toNat:Int) = E:=Int.toNat_of_nonneg (by rw [<- hE]; unfold judE; (repeat' split) <;> decide);have ht:top Strs.rightB s = .error (E.toNat,p):=mid_err HM.out ho hpe _ (by
         rw [look_dec _ _ _ _ _ _ _ _ hq,if_neg hx,if_neg hf];have e1:judE (hh.c:Int) (hh.t:Int) hh.b (datB s p k hh) ((op.length + 1:Nat):Int) (((ns.map Prod.fst).length:Nat):Int) = E:=by
           unfold datB;rw [hb,List.length_map,if_pos rfl,<- hE];rfl
         rw [e1,if_neg hE0])
       have hW:∀ w',Since w w' -> WPost w s (.returned (fltV E (p:Int))) w':=by
         intro w' h;have h8:=wpost_err ht h;rw [hEn] at h8;exact h8
       have HW:=lH hW;clear hE hD hW ht hEn he2 hp2;go_wp2_with fail;refine c1.calls0 ?_;intro w1 h9;have HA:=lH (HS0.out.step h9);have HS1:=lH ((HA.out.alloc (.cells (H4 (hh.c:Int) (hh.t:Int) true (hh.n:Int)) 115)).alloc (.cells #[.int .i64 (hh.c:Int),.int .i64 (hh.t:Int),.bool true,.string ⟨#[]⟩,.slice none 0 0] 87));have hp:=lH (hb_new w1 KT trivial (H4 (hh.c:Int) (hh.t:Int) true (hh.n:Int)) 115);unfold H4 at HS1 hp ⊢;obtain ⟨_,m0,m1,m2,m3⟩:=hb4 hp;clear h9;go_wp2_with fail;refine c3.calls ?_;go_wp2_with fail;refine c4.calls ?_;go_wp2_with fail;refine c5.calls ?_;go_wp2_with fail;refine c7.calls0 ?_;intro w5 h5;have HS2:=lH (HS1.out.step h5);clear h5 m0 m1 m2 m3;have hr0:=lH (HR.step (w:=w) ⟨heap_alloc_new w _⟩ HS2.out);have HS:=lH ((Since.alloc (Since.refl w) _).step HS2.out);go_wp2_with fail;refine c2.calls ?_;go_wp2_with (refine wpList_store_row rfl 65 _ _ rfl w.heap.size (F2 E (p:Int)) (by rfl) (by rfl) _ _ hr0.out.row (f2_info E (p:Int)) rfl (f2_one E (p:Int)) ?_)
       simp only [Exit.jump];exact bodyPost_ret (v:=fltV E (p:Int)) (results_tt_cell Tryz.results106 _ _ _ _ _ _ _ _ _ rfl rfl rfl (setRow_heap _ _ _ _ _ _ hr0.out.row) Tryz.underlying65 rfl (f2_info E (p:Int))) rfl (HW.out _ (below_setRow HS.out (Nat.le_refl _) _))
     | false =>
       rw [hb] at c1;have c7:=jud_mak (hh.c:Int) (hh.t:Int) false D ((op.length:Int) + 1) (ns.length:Int) hDs;generalize hE:judE (hh.c:Int) (hh.t:Int) false D ((op.length:Int) + 1) (ns.length:Int) = E at c7
       by_cases hE0:E = 0
       · have hl:look Strs.rightB s p e (op.length + 1) (ns.map Prod.fst).length = .ok (hh,k):=by
           rw [look_dec _ _ _ _ _ _ _ _ hq,if_neg hx,if_neg hf];have e1:judE (hh.c:Int) (hh.t:Int) hh.b (datB s p k hh) ((op.length + 1:Nat):Int) (((ns.map Prod.fst).length:Nat):Int) = E:=by
             unfold datB;rw [hb,List.length_map,if_neg (by decide),<- hE,hD,hp2,he2,Nat.add_assoc];rfl
           rw [e1,if_pos hE0]
         have lk:=look_ok hl;have lk1:=lk.cnt;have lk2:=lk.deep;rw [List.length_map] at lk1;obtain ⟨m,hm⟩:∃ m,op.length = m + 1:=⟨op.length - 1,by omega⟩
         obtain ⟨O,hO⟩:∃ O,op.getD m 0 = O:=⟨_,rfl⟩
         have hO2:op.getD (op.length - 1) 0 = O:=by rw [hm,Nat.add_sub_cancel]; exact hO
         have hOn:O < ns.length:=by
           have h9:=HM.out.occ (op.getD m 0) (by simp [List.getD,show m < op.length by omega]);rw [List.length_map,hO] at h9;exact h9
         have hOc:(op.map (fun i:Nat => Value.int .i64 (i:Int)))[m]? = some (.int .i64 (O:Int)):=by
           rw [<- hO];simp [List.getD,show m < op.length by omega]
         obtain ⟨⟨nd,kv⟩,hnd⟩:∃ x,ns[O]? = some x:=⟨_,List.getElem?_eq_getElem hOn⟩
         have hkl:nd.k.length <= ns.length:=HKL.out O _ hnd;have hspl:sp.length = ns.length:=by have:=HM.out.len; rw [List.length_map] at this; exact this
         have hM3:=mid_prim HM.out ho hpe hh k hl hb;rw [hO2,List.length_map,Nat.add_assoc,<- he2,<- hp2,<- hD] at hM3;obtain ⟨M,P,Q,hlv⟩:∃ M P Q,lv (En (sp ++ [(p,e2)]) (op)) s.size (op).length e2 e = (M,P,Q):=⟨_,_,_,rfl⟩
         obtain ⟨hMl,hMQ,hPQ⟩:=mid_leave hM3 hlv;have HMl:Hid (((op).take M).length = M):=lH (by rw [List.length_take]; omega);have HMo:Hid (M <= op.length + 1):=lH (by first | omega | (rw [List.length_append,List.length_singleton] at hMl; omega));have HMQ:=lH hMQ;have HPQ:=lH hPQ;have HLV:=lH hlv;have HM3:=lH hM3;have HSz:=lH hs;have HB1:Hid (nd.k.length + 1 <= maxLen):=lH (by unfold maxLen; omega);have HB2:Hid ((nd.k.length + 1) * 8 <= 140737488355328):=lH (by omega);have HB3:Hid (ns.length + 1 <= maxLen):=lH (by unfold maxLen; omega);have HB4:Hid ((ns.length + 1) * 64 <= 140737488355328):=lH (by omega);have HB5:Hid (O * 5 + 4 < ns.length * 5):=lH (by omega);have HB6:Hid (sp.length + 1 <= maxLen):=lH (by unfold maxLen; omega);have HB7:Hid ((sp.length + 1) * 16 <= 140737488355328):=lH (by omega);have HB8:Hid (ns.length + 1 <= 1000):=lH (by omega);have HB9:Hid (op.length + 1 <= maxLen):=lH (by unfold maxLen; omega);have HB10:Hid ((op.length + 1) * 8 <= 140737488355328):=lH (by omega);obtain ⟨A,B,hK1,hK2⟩:∃ A B,WRows (.slice (some ⟨gt,0,none⟩) ns.length ct) sv (.slice (some ⟨go,0,none⟩) op.length co) ns sp op = A ++ ⟨3,1,kv,nd.k.length,nd.k.map (Value.int .i64)⟩ :: B /\
             ∀ kv2 w',Rw.Rows w' (w.alloc (.cells #[.int .i64 0,.int .i64 0] 65)).heap.size (A ++ ⟨3,1,kv2,nd.k.length + 1,nd.k.map (Value.int .i64) ++ [.int .i64 (ns.length:Int)]⟩ :: B) -> Rw.Rows w' (w.alloc (.cells #[.int .i64 0,.int .i64 0] 65)).heap.size ([] ++ ⟨87,5,.slice (some ⟨gt,0,none⟩) ns.length ct,ns.length,ns.flatMap nc⟩ :: ((WRows (.slice (some ⟨gt,0,none⟩) ns.length ct) sv (.slice (some ⟨go,0,none⟩) op.length co) (addV ns O [(ns.length:Int)] kv2) sp op).drop 1)) :=
           ⟨_,_,rows_kid hnd,fun kv2 w' h => rows_kid2 hnd _ ▸ h⟩
         have HK1:=lH hK1;have HK2:=lH hK2;have q1:decide ((0:Int) < (op.length:Int)) = true:=decide_eq_true (by omega);have q2:decide (0 < op.length) = true:=decide_eq_true (by omega);have q3:(op.length:Int) - 1 = (m:Int):=by omega
         have q4:(m:Int) < (op.length:Int):=by omega
         have q5:(0:Int) <= (m:Int):=by omega
         have q6:(O:Int) < (ns.length:Int):=by omega
         have q7:(0:Int) <= (O:Int):=by omega
         obtain rfl:E = 0:=hE0;have HL:=lH hl;have HOp:=lH hm;have HOc:=lH hOc;have HNd:=lH hnd;have HOe:=lH hO;have HD:=lH hD;have HB0:=lH hOn;clear hE hl hm hOc hnd hO hD hq lk hO2 hspl hM3 hlv hMl hMQ hPQ hK1 hK2 he2 hp2 hkl hOn;go_wp2_with fail;refine c1.calls0 ?_;intro w1 h9;have hW9:=lH (show Since W w1 from h9);have HA:=lH (HS0.out.step h9);have HS1:=lH ((HA.out.alloc (.cells (H4 (hh.c:Int) (hh.t:Int) false (hh.n:Int)) 115)).alloc (.cells #[.int .i64 (hh.c:Int),.int .i64 (hh.t:Int),.bool false,.string D,.slice none 0 0] 87));have hp:=lH (hb_new w1 KT trivial (H4 (hh.c:Int) (hh.t:Int) false (hh.n:Int)) 115);unfold H4 at HS1 hp ⊢;obtain ⟨_,m0,m1,m2,m3⟩:=hb4 hp;clear h9;go_wp2_with fail;refine c3.calls ?_;go_wp2_with fail;refine c4.calls ?_;go_wp2_with fail;refine c5.calls ?_;go_wp2_with fail;refine c6.calls ?_;go_wp2_with fail;refine c7.calls0 ?_;intro w5 h5;have HS5:=lH (HS1.out.step h5);have hn5:=lH ((hr_two w w1 #[.int .i64 (hh.c:Int),.int .i64 (hh.t:Int),.bool false,.int .i64 (hh.n:Int)] #[.int .i64 (hh.c:Int),.int .i64 (hh.t:Int),.bool false,.string D,.slice none 0 0] 115 87).step h5);have hd5:=lH ((hr_old (w:=w) ⟨heap_alloc_new w1 (.cells #[.int .i64 (hh.c:Int),.int .i64 (hh.t:Int),.bool false,.int .i64 (hh.n:Int)] 115)⟩ (.cells #[.int .i64 (hh.c:Int),.int .i64 (hh.t:Int),.bool false,.string D,.slice none 0 0] 87)).step h5);have hR5:=lH (HRW.out.since (((hW9.out.alloc (.cells #[.int .i64 (hh.c:Int),.int .i64 (hh.t:Int),.bool false,.int .i64 (hh.n:Int)] 115)).alloc (.cells #[.int .i64 (hh.c:Int),.int .i64 (hh.t:Int),.bool false,.string D,.slice none 0 0] 87)).step h5));have hWs:W.heap.size <= w1.heap.size:=Below.size hW9.out;have hR5k:=hR5.out;rw [HK1.out] at hR5k;have hRWk:=HRW.out;rw [HK1.out] at hRWk;have bk:=lH (fun g (hg:w1.heap.size <= g) => own_lt hRWk.get (Nat.le_trans hWs hg));have bt:=lH (fun g (hg:w1.heap.size <= g) => own_lt (own_tv HRW.out) (Nat.le_trans hWs hg));have bs:=lH (fun g (hg:w1.heap.size <= g) => own_lt (own_sv HRW.out) (Nat.le_trans hWs hg));have HR5:=lH hR5k;have o1:=((own_cells (own_ov hR5.out)).2.2 m (.int .i64 (O:Int)) HOc.out).1;have o2:=((own_cells (own_tv hR5.out)).2.2 (O * 5 + 4) kv (nc_at ns O _ HNd.out 4 kv rfl)).1;clear h5 m0 m1 m2 m3 hR5k hRWk hWs;go_wp2_with (first
           | (at_builtin; refine app_rows elemT rfl _ _ (by rfl) (w.alloc (.cells #[.int .i64 0,.int .i64 0] 65)) w5 _ rfl A B kv nd.k.length (nd.k.map (Value.int .i64)) (by rfl) HR5.out HS5.out #[.int .i64 (ns.length:Int)] 1 1 (by rfl) rfl (by intro v hv; simp at hv; subst hv; rfl) HB1.out HB2.out ?_; intro kv2 w6 HQ1 HT1 hk1; obtain ⟨ka,kc,rfl⟩:∃ A c,kv2 = .slice A (nd.k.length + 1) c:=own_any HQ1.get; have HR6:=lH (HK2.out _ _ HQ1); have HS6:=lH HT1; have hn6:=lH (HR.keptV hn5.out hk1 (bk.out _ (Nat.le_succ _))); have hd6:=lH (HR.keptV hd5.out hk1 (bk.out _ (Nat.le_refl _))); clear HQ1 HT1 hk1 o1 o2)
           | (refine store_rows rfl 44 _ _ (by rfl) intl_one (w.alloc (.cells #[.int .i64 0,.int .i64 0] 65)) w6 [] _ 87 5 gt ns.length ct (ns.flatMap nc) HR6.out HS6.out (O * 5 + 4) HB5.out (by rfl) (.slice ka (nd.k.length + 1) kc) (by rfl) rfl ?_; intro w7 HQ2 HT2 hk2; rw [nc_set ns O [(ns.length:Int)] _ HB0.out] at HQ2; obtain ⟨ns2,hns2⟩:∃ ns2,ns2 = addV ns O [(ns.length:Int)] (.slice ka (nd.k.length + 1) kc):=⟨_,rfl⟩; have HN2:=lH hns2; rw [<- hns2] at HQ2; have HR7:=lH HQ2; have HS7:=lH HT2; have hn7:=lH (HR.keptV hn6.out hk2 (bt.out _ (Nat.le_succ _))); have hd7:=lH (HR.keptV hd6.out hk2 (bt.out _ (Nat.le_refl _))); have n0:=hr_cell hn7.out 0 _ rfl; have n1:=hr_cell hn7.out 1 _ rfl; have n2:=hr_cell hn7.out 2 _ rfl; have n3:=hr_cell hn7.out 3 _ rfl; have n4:=hr_cell hn7.out 4 _ rfl; clear HQ2 HT2 hk2 hns2)
           | (at_builtin; refine app_rows elemN rfl _ _ (by rfl) (w.alloc (.cells #[.int .i64 0,.int .i64 0] 65)) w7 _ rfl [] _ _ ns.length (ns2.flatMap nc) (by rfl) HR7.out HS7.out #[.int .i64 (hh.c:Int),.int .i64 (hh.t:Int),.bool false,.string D,.slice none 0 0] 1 1 (by rfl) rfl (by intro u hu; simp at hu; rcases hu with rfl | rfl | rfl | rfl | rfl <;> rfl) HB3.out HB4.out ?_; intro tv2 w8 HQ3 HT3 hk3; obtain ⟨ta,tc,rfl⟩:∃ A c,tv2 = .slice A (ns.length + 1) c:=own_any HQ3.get; have h8:=rows_node2 ns.length (by rw [HN2.out,addV_len]) _ _ _ _ HQ3; rw [rows_span] at h8; have HR8:=lH h8; have HS8:=lH HT3; have hd8:=lH (HR.keptV hd7.out hk3 (bt.out _ (Nat.le_refl _))); clear HQ3 HT3 hk3 h8 n0 n1 n2 n3 n4)
           | (at_builtin; refine app_rows elemC rfl _ _ (by rfl) (w.alloc (.cells #[.int .i64 0,.int .i64 0] 65)) w8 _ rfl [_] _ sv sp.length _ (by rfl) HR8.out HS8.out #[.complex .f64 (fl (p:Int)) (fl (e2:Int))] 1 1 (by rfl) rfl (by intro u hu; simp at hu; subst hu; rfl) HB6.out HB7.out ?_; intro sv2 w9 HQ4 HT4 hk4; obtain ⟨sa,sc,rfl⟩:∃ A c,sv2 = .slice A (sp.length + 1) c:=own_any HQ4.get; have h9:=rows_span3 HQ4; skip; have HR9:=lH h9; have HS9:=lH HT4; have hd9:=lH (HR.keptV hd8.out hk4 (bs.out _ (Nat.le_refl _))); have m2:=hr_cell hd9.out 2 _ rfl; clear HQ4 HT4 hk4 h9))
         refine (leave_rows w9 _ _ _ _ _ _ _ s e2 e HR9.out (by rw [HN2.out,List.map_append,addV_fst]; exact HM3.out) HSz.out (by rw [List.length_append,HN2.out,addV_len]; exact HB8.out) M P Q HLV.out).mono ?_;rintro _ _ ⟨ov3,rfl,rfl,hR10⟩;obtain ⟨oa,oc,rfl⟩:∃ A c,ov3 = .slice A M c:=by
           have h:=own_any (own_ov hR10);rw [HMl.out] at h;exact h
         have HRE:=lH hR10;have HKE:=lH (show KL (ns2 ++ [(⟨hh.c,hh.t,false,D,[]⟩,.slice none 0 0)]) by rw [HN2.out]; exact kl_grow HKL.out _ _ _ _ rfl);have HNE:=lH (show (ns2 ++ [((⟨hh.c,hh.t,false,D,[]⟩,.slice none 0 0):Nd × Value)]).map Prod.fst = addK (ns.map Prod.fst) O [(ns.length:Int)] ++ [⟨hh.c,hh.t,false,D,[]⟩] by rw [HN2.out,List.map_append,addV_fst]; rfl);have HLE:=lH (show (ns2 ++ [((⟨hh.c,hh.t,false,D,[]⟩,.slice none 0 0):Nd × Value)]).length = ns.length + 1 by rw [List.length_append,HN2.out,addV_len]; rfl);clear hR10 m2
         by_cases hM0:M = 0
         · subst hM0;have q8:decide (0 < 0) = false:=rfl;have c9:=from_ret P Q ⟨HMQ.out.pe,by have:=HMQ.out.es; omega⟩;have hG:=good_end HMQ.out.good
           by_cases hP:P < s.size
           · have q9:decide (P < s.size) = true:=decide_eq_true hP;have HW:=lH (fun w' h => wpost_err (w:=w) (w':=w') (hG.1 hP) h);clear hG hP;have hr0:=lH (HR.step (w:=w) ⟨heap_alloc_new w _⟩ HS9.out);have HS:=lH ((Since.alloc (Since.refl w) _).step HS9.out);go_wp2_with fail;refine c9.calls ?_;go_wp2_with fail;refine c9.calls ?_;go_wp2_with (refine wpList_store_row rfl 65 _ _ rfl w.heap.size (F2 5 (P:Int)) (by rfl) (by rfl) _ _ hr0.out.row (f2_info 5 (P:Int)) rfl (f2_one 5 (P:Int)) ?_)
             simp only [Exit.jump];exact bodyPost_ret (v:=fltV 5 (P:Int)) (results_tt_cell Tryz.results106 _ _ _ _ _ _ _ _ _ rfl rfl rfl (setRow_heap _ _ _ _ _ _ hr0.out.row) Tryz.underlying65 rfl (f2_info 5 (P:Int))) rfl (HW.out _ (below_setRow HS.out (Nat.le_refl _) _))
           · have q9:decide (P < s.size) = false:=decide_eq_false hP;have HG:=lH (hG.2 hP);clear hG hP;have hr0:=lH (HR.step (w:=w) ⟨heap_alloc_new w _⟩ HS9.out);have HS:=lH ((Since.alloc (Since.refl w) _).step HS9.out);go_wp2_with fail;refine c9.calls ?_;go_wp2_with (refine wpList_store_row rfl 65 _ _ rfl w.heap.size (F2 0 0) (by rfl) (by rfl) _ _ hr0.out.row (f2_info 0 0) rfl (f2_one 0 0) ?_)
             simp only [Exit.jump];have hself:w9.setRow w.heap.size (F2 0 0) = w9:=setRow_self _ _ _ _ _ hr0.out.row;rw [hself];refine bodyPost_ret (v:=.tuple #[.slice ta (ns.length + 1) tc,.slice sa (sp.length + 1) sc,.agg (F2 0 0)]) (results_tt_cell Tryz.results106 _ _ _ _ _ _ _ _ _ rfl rfl rfl hr0.out.row Tryz.underlying65 rfl (f2_info 0 0)) rfl ?_;obtain ⟨g,e1,e2,e3⟩:=HG.out;unfold WPost;rw [e1];refine ⟨.slice ta (ns.length + 1) tc,.slice sa (sp.length + 1) sc,.slice oa 0 oc,ns2 ++ [(⟨hh.c,hh.t,false,D,[]⟩,.slice none 0 0)],rfl, ?_,HNE.out.trans e2,HS.out⟩;rw [<- e3];exact HRE.out
         · have q8:decide ((0:Int) < (M:Int)) = true:=decide_eq_true (by omega);have q9:decide (0 < M) = true:=decide_eq_true (by omega);have hM0':0 < M:=by omega
           have HSE:=lH HS9.out;have HM16:Hid (M <= 16):=lH (by have:=HMo.out; omega);go_wp2_with fail
           go_step3
           exact ⟨rfl,jw_of _ _ _ _ P Q _ _ _ (by kernel_rfl) (by rw [HMl.out]; exact hM0') (HPQ.out hM0') (by rw [HLE.out]; exact HB8.out) (by rw [HMl.out]; exact HM16.out) (lH HSE.out) HRE (lH (by rw [HNE.out]; exact HMQ.out)) HKE,by show 1001 - (ns.length + 1) < 1001 - ns.length; omega⟩
       have hE1:(E != 0) = true:=by rw [bne_iff_ne]; exact hE0
       have hEn:(E.toNat:Int) = E:=Int.toNat_of_nonneg (by rw [<- hE]; unfold judE; (repeat' split) <;> decide);have ht:top Strs.rightB s = .error (E.toNat,p):=mid_err HM.out ho hpe _ (by
         rw [look_dec _ _ _ _ _ _ _ _ hq,if_neg hx,if_neg hf];have e1:judE (hh.c:Int) (hh.t:Int) hh.b (datB s p k hh) ((op.length + 1:Nat):Int) (((ns.map Prod.fst).length:Nat):Int) = E:=by
           unfold datB;rw [hb,List.length_map,if_neg (by decide),<- hE,hD,hp2,he2,Nat.add_assoc];rfl
         rw [e1,if_neg hE0])
       have hW:∀ w',Since w w' -> WPost w s (.returned (fltV E (p:Int))) w':=by
         intro w' h;have h8:=wpost_err ht h;rw [hEn] at h8;exact h8
       have HW:=lH hW;clear hE hD hW ht hEn he2 hp2;go_wp2_with fail;refine c1.calls0 ?_;intro w1 h9;have HA:=lH (HS0.out.step h9);have HS1:=lH ((HA.out.alloc (.cells (H4 (hh.c:Int) (hh.t:Int) false (hh.n:Int)) 115)).alloc (.cells #[.int .i64 (hh.c:Int),.int .i64 (hh.t:Int),.bool false,.string D,.slice none 0 0] 87));have hp:=lH (hb_new w1 KT trivial (H4 (hh.c:Int) (hh.t:Int) false (hh.n:Int)) 115);unfold H4 at HS1 hp ⊢;obtain ⟨_,m0,m1,m2,m3⟩:=hb4 hp;clear h9;go_wp2_with fail;refine c3.calls ?_;go_wp2_with fail;refine c4.calls ?_;go_wp2_with fail;refine c5.calls ?_;go_wp2_with fail;refine c6.calls ?_;go_wp2_with fail;refine c7.calls0 ?_;intro w5 h5;have HS2:=lH (HS1.out.step h5);clear h5 m0 m1 m2 m3;have hr0:=lH (HR.step (w:=w) ⟨heap_alloc_new w _⟩ HS2.out);have HS:=lH ((Since.alloc (Since.refl w) _).step HS2.out);go_wp2_with fail;refine c2.calls ?_;go_wp2_with (refine wpList_store_row rfl 65 _ _ rfl w.heap.size (F2 E (p:Int)) (by rfl) (by rfl) _ _ hr0.out.row (f2_info E (p:Int)) rfl (f2_one E (p:Int)) ?_)
       simp only [Exit.jump];exact bodyPost_ret (v:=fltV E (p:Int)) (results_tt_cell Tryz.results106 _ _ _ _ _ _ _ _ _ rfl rfl rfl (setRow_heap _ _ _ _ _ _ hr0.out.row) Tryz.underlying65 rfl (f2_info E (p:Int))) rfl (HW.out _ (below_setRow HS.out (Nat.le_refl _) _))
end Tlv
namespace Tlv
open Span Flt Rw
theorem wpost_mak {w:World} {s:ByteArray} {c p:Nat} {x y:Int} (ht:top Strs.rightB s = .error (c,p)) (hx:x = (c:Int)) (hy:y = (p:Int)) (h:Mak 106 #[.string s] (fltV x y)):Calls Tryz.prog 106 #[.string s] w (WPost w s):=by
 subst hx hy;refine (h w).mono ?_;rintro _ w' ⟨rfl,hs⟩;exact wpost_err ht hs
theorem top_empty:top Strs.rightB ⟨#[]⟩ = .error (3,0):=rfl
theorem walk_any (w:World) (s:ByteArray) (hm:s.size <= maxLen):Calls Tryz.prog 106 #[.string s] w (WPost w s):=by
 by_cases h0:s.size = 0
 · obtain rfl:s = ⟨#[]⟩:=by
     apply ByteArray.ext
     exact Array.eq_empty_of_size_eq_zero h0
   exact wpost_mak top_empty rfl rfl walk_empty
 have h0':0 < s.size:=by omega
 by_cases h1:65535 < s.size
 · have ht:top Strs.rightB s = .error (4,0):=by
     unfold top one;rw [if_neg (by omega),if_pos h1]
   exact wpost_mak ht rfl rfl (walk_long s h1 hm)
 have hs:s.size <= 65535:=by omega
 have c0:Ret 82 #[.int .i64 0,.int .i64 (s.size:Int)] (.complex .f64 (fl ((0:Nat):Int)) (fl (s.size:Int))):=of_yes 0 s.size ⟨by omega,by omega⟩;have c2:Ret 83 #[.complex .f64 (fl ((0:Nat):Int)) (fl (s.size:Int))] (.int .i64 0):=from_ret 0 s.size ⟨by omega,by omega⟩;have c1:=meas_mak s 0 s.size (by omega) (Nat.le_refl _) hs;obtain ⟨hh,k,x,hq⟩:∃ hh k x,Head.dec (s.extract 0 s.size).data.toList = (hh,k,x):=⟨_,_,_,rfl⟩
 have hlk:=look_dec s 0 s.size 1 0 hh k x hq;unfold measV at c1;rw [hq] at c1;dsimp only at c1
 by_cases hx:x ≠ 0
 · rw [if_pos hx] at c1 hlk;exact wpost_mak (top_err h0' hs x hlk) rfl rfl (walk_e0 s h0' hs _ _ (x:Int) (by rw [bne_iff_ne]; omega) c0 c1 c2)
 rw [if_neg hx] at c1 hlk
 by_cases hf:s.size - 0 < k + hh.n
 · rw [if_pos hf] at c1 hlk;exact wpost_mak (top_err h0' hs 5 hlk) rfl rfl (walk_e0 s h0' hs _ _ 5 (by decide) c0 c1 c2)
 rw [if_neg hf] at c1 hlk;obtain rfl:x = 0:=by omega
 obtain ⟨g1,g2,g3,g4,g5⟩:=Head.enc_dec _ _ _ hq;have gl:(Head.encL hh.c hh.t hh.b hh.n).length = k:=by rw [g5,List.length_take]; omega
 have gk:=(Head.encL_len hh.c hh.t hh.b hh.n).1;have c3:=total_ret k hh.n (by omega) (by omega);have c4:=split_ret 0 s.size (k + hh.n) (by omega) (by omega) (0 + k + hh.n) (by omega);have v1:∀ w,(convert 155 3 (.float .f64 (fl (k:Int)))).run Tryz.prog w = .ok (.int .i64 (k:Int)) w:=fun w => conv_fi (fl (k:Int)) (k:Int) (fl_is _ (by omega)) (by omega) w
 have c5:=split_ret 0 (0 + k + hh.n) k (by omega) (by omega) (0 + k) (by omega);have c6:=cut_pe s (0 + k) (0 + k + hh.n) (by omega) (by omega) hs;have hDs:(s.extract (0 + k) (0 + k + hh.n)).size <= 1000000:=by rw [ByteArray.size_extract]; omega
 cases hb:hh.b with
 | true =>
   rw [hb] at c1
   by_cases hE0:judE (hh.c:Int) (hh.t:Int) hh.b (datB s 0 k hh) ((1:Nat):Int) ((0:Nat):Int) = 0
   · rw [if_pos hE0] at hlk;exact walk_loop w s h0' hs hh k hlk hb
   · rw [if_neg hE0] at hlk;have c7:=jud_mak (hh.c:Int) (hh.t:Int) true ⟨#[]⟩ 1 0 (by decide);have e1:judE (hh.c:Int) (hh.t:Int) hh.b (datB s 0 k hh) ((1:Nat):Int) ((0:Nat):Int) = judE (hh.c:Int) (hh.t:Int) true ⟨#[]⟩ 1 0:=by
       unfold datB;rw [hb,if_pos rfl];rfl
     rw [e1] at hE0 hlk;have hEn:((judE (hh.c:Int) (hh.t:Int) true ⟨#[]⟩ 1 0).toNat:Int) = judE (hh.c:Int) (hh.t:Int) true ⟨#[]⟩ 1 0:=Int.toNat_of_nonneg (by unfold judE; (repeat' split) <;> decide);exact wpost_mak (top_err h0' hs _ hlk) hEn.symm rfl (walk_e1c s _ h0' hs _ _ _ _ _ _ _ _ _ _ _ _ (by rw [bne_iff_ne]; exact hE0) c0 c1 c2 c3 c4 v1 c5 c6 c7)
 | false =>
   rw [hb] at c1;have c7:=jud_mak (hh.c:Int) (hh.t:Int) false (s.extract (0 + k) (0 + k + hh.n)) 1 0 hDs;have e1:judE (hh.c:Int) (hh.t:Int) hh.b (datB s 0 k hh) ((1:Nat):Int) ((0:Nat):Int) = judE (hh.c:Int) (hh.t:Int) false (s.extract (0 + k) (0 + k + hh.n)) 1 0:=by
     unfold datB;rw [hb,if_neg (by decide)];rfl
   rw [e1] at hlk
   by_cases hE0:judE (hh.c:Int) (hh.t:Int) false (s.extract (0 + k) (0 + k + hh.n)) 1 0 = 0
   · rw [if_pos hE0] at hlk;rw [hE0] at c7;have hM:=mid_first_prim h0' hs hh k hlk hb;have hG:=good_end hM.good;have c9:=from_ret (0 + k + hh.n) s.size ⟨by omega,by omega⟩
     by_cases hP:0 + k + hh.n < s.size
     · exact wpost_mak (hG.1 hP) rfl rfl (walk_pf s _ h0' hs _ _ _ _ (0 + k + hh.n) s.size _ _ _ _ _ c0 c1 (decide_eq_true hP) c9 c2 c3 c4 v1 c5 c6 c7)
     · obtain ⟨g,t1,t2,t3⟩:=hG.2 hP;refine (walk_pt s _ h0' hs _ _ _ _ (0 + k + hh.n) s.size _ _ _ _ _ c0 c1 (decide_eq_false hP) c9 c2 c3 c4 v1 c5 c6 c7 w).mono ?_;rintro _ w' ⟨tv,sv,rfl,hR,hS⟩;unfold WPost;rw [t1];refine ⟨tv,sv,.slice none 0 0,[(⟨hh.c,hh.t,false,s.extract (0 + k) (0 + k + hh.n),[]⟩,.slice none 0 0)],rfl, ?_,t2,hS⟩;rw [<- t3];exact hR.add_nil 3 1
   · rw [if_neg hE0] at hlk;have hEn:((judE (hh.c:Int) (hh.t:Int) false (s.extract (0 + k) (0 + k + hh.n)) 1 0).toNat:Int) = judE (hh.c:Int) (hh.t:Int) false (s.extract (0 + k) (0 + k + hh.n)) 1 0:=Int.toNat_of_nonneg (by unfold judE; (repeat' split) <;> decide);exact wpost_mak (top_err h0' hs _ hlk) hEn.symm rfl (walk_e1p s _ h0' hs _ _ _ _ _ _ _ _ _ _ _ _ (by rw [bne_iff_ne]; exact hE0) c0 c1 c2 c3 c4 v1 c5 c6 c7)
end Tlv
namespace Tlv
open Span Flt Rw
def NodesS (w:World) (v:Value) (ns:List (Nd × Value)):Prop:=SlR w 5 v ns.length (ns.flatMap nc) /\ ∀ x ∈ ns,IntsS w x.2 x.1.k
def TreeS (w:World) (v:Value) (N:List Nd):Prop:=∃ ns,NodesS w v ns /\ ns.map Prod.fst = N
def SpansS (w:World) (v:Value) (sp:List (Nat × Nat)):Prop:=SlR w 1 v sp.length (sp.map (fun p => .complex .f64 (fl (p.1:Int)) (fl (p.2:Int))))
theorem NodesS.since {w w':World} {v:Value} {ns:List (Nd × Value)} (h:NodesS w v ns) (hs:Since w w'):NodesS w' v ns:=⟨SlR.since h.1 hs,fun x hx => (h.2 x hx).since hs⟩
theorem TreeS.since {w w':World} {v:Value} {N:List Nd} (h:TreeS w v N) (hs:Since w w'):TreeS w' v N:=by
 obtain ⟨ns,h1,h2⟩:=h;exact ⟨ns,h1.since hs,h2⟩
theorem TreeS.nil (w:World):TreeS w (.slice none 0 0) []:=⟨[],⟨SlR.nil w 5,by simp⟩,rfl⟩
theorem TreeS.slice {w:World} {v:Value} {N:List Nd} (h:TreeS w v N):∃ A c,v = .slice A N.length c /\ N.length <= c /\ c <= maxLen:=by
 obtain ⟨ns,h1,rfl⟩:=h;rw [List.length_map];exact SlR.slice h1.1
theorem TreeS.form {w:World} {v:Value} {N:List Nd} (h:TreeS w v N) (hn:0 < N.length) :
   ∃ b o c,v = .slice (some ⟨b,o,none⟩) N.length c /\ N.length <= c /\ c <= maxLen /\ b < w.heap.size /\ ∀ (i:Nat) x,N[i]? = some x -> ∃ kv,w.cell? ⟨b,o + i * 5,none⟩ = some (.int .i64 x.c) /\ w.cell? ⟨b,o + i * 5 + 1,none⟩ = some (.int .i64 x.t) /\ w.cell? ⟨b,o + i * 5 + 2,none⟩ = some (.bool x.b) /\
     w.cell? ⟨b,o + i * 5 + 3,none⟩ = some (.string x.d) /\ w.cell? ⟨b,o + i * 5 + 4,none⟩ = some kv /\ IntsS w kv x.k:=by
 obtain ⟨ns,h1,rfl⟩:=h;rw [List.length_map] at hn ⊢;obtain ⟨b,o,c,hv,a1,a2,a3,a4⟩:=SlR.form h1.1 hn;refine ⟨b,o,c,hv,a1,a2,a3,fun i x hx => ?_⟩;rw [List.getElem?_map] at hx;cases hq:ns[i]? with
 | none => rw [hq] at hx; cases hx
 | some y =>
   rw [hq] at hx;cases hx;have hg:∀ j u,(nc y)[j]? = some u -> w.cell? ⟨b,o + i * 5 + j,none⟩ = some u:=fun j u hj => by
     rw [Nat.add_assoc];exact a4 _ _ (nc_at ns i y hq j u hj)
   exact ⟨y.2,hg 0 _ rfl,hg 1 _ rfl,hg 2 _ rfl,hg 3 _ rfl,hg 4 _ rfl,h1.2 y (List.mem_iff_getElem?.2 ⟨i,hq⟩)⟩
theorem TreeS.own {w:World} {base:Nat} {tv sv ov:Value} {ns:List (Nd × Value)} {sp:List (Nat × Nat)} {op:List Nat} (h:Rw.Rows w base (WRows tv sv ov ns sp op)):TreeS w tv (ns.map Prod.fst) :=
 ⟨ns,⟨SlR.own (own_tv h),fun x hx => by
   have h9:=h.own (kr x) (by unfold WRows; simp; exact .inr (.inr (.inr ⟨x.1,x.2,hx,rfl⟩)));have h8:SlR w 1 x.2 x.1.k.length (x.1.k.map (Value.int .i64)):=SlR.own h9;exact h8⟩,rfl⟩
def topV (s:ByteArray):Nat × Nat × List Nd × List (Nat × Nat) :=
 match top Strs.rightB s with
 | .error (c,p) => (c,p,[],[])
 | .ok g => (0,0,g.flat 0,g.spans 0)
theorem rows_low {w:World} {base:Nat} {rs:List Row} (h:Rw.Rows w base rs) {a:Addr} (ha:a.block < base) (u:Value):Rw.Rows (w.setCell a u) base rs:=⟨fun r hr => ownsRow_setCell_below (h.own r hr) ha u,h.apart⟩
theorem rows_base {w:World} {base base':Nat} {rs:List Row} (h:Rw.Rows w base rs) (hb:base' <= base):Rw.Rows w base' rs:=⟨fun r hr => by
 obtain ⟨h1,h2⟩:=h.own r hr;refine ⟨h1, ?_⟩;rcases h2 with h2 | ⟨g,cap,cur,hv,hb2,hr⟩
 · exact .inl h2
 · exact .inr ⟨g,cap,cur,hv,Nat.le_trans hb hb2,hr⟩,h.apart⟩
theorem walk_u (s:ByteArray) (hm:s.size <= maxLen) (c p:Nat) (N:List Nd) (S:List (Nat × Nat)) (ht:topV s = (c,p,N,S)) (w:World):Calls Tryz.prog 106 #[.string s] w fun e w' => ∃ tv sv ov ns,e = .returned (.tuple #[tv,sv,.agg (F2 (c:Int) (p:Int))]) /\ Rw.Rows w' w.heap.size (WRows tv sv ov ns S []) /\ ns.map Prod.fst = N /\ Since w w':=by
 refine (walk_any w s hm).mono ?_;intro e w' h;unfold WPost at h;unfold topV at ht;cases hq:top Strs.rightB s with
 | error x =>
   obtain ⟨c',p'⟩:=x;rw [hq] at h ht;dsimp only at h ht;cases ht;obtain ⟨rfl,h2⟩:=h;exact ⟨_,_,.slice none 0 0,[],rfl,(((Rw.Rows.nil _ _).add_nil _ _).add_nil _ _).add_nil _ _,rfl,h2⟩
 | ok g =>
   rw [hq] at h ht;dsimp only at h ht;cases ht;obtain ⟨tv,sv,ov,ns,rfl,h2,h3,h4⟩:=h;exact ⟨tv,sv,ov,ns,rfl,rows_base h2 (by simp),h3,h4⟩
theorem results_t_cell {P:Program} {fn:Func} {p u:Tmp} {ty:TypeId} (h:fn.results = #[.tmp u,.cell p ty]) (tmps:Array Value) (w:World) (g:Nat) (t:TypeId) (cs:Array Value) (fr:Nat × Nat) (d:TypeDesc) (v:Value)
   (hp:tmps.getD p undef = .pointer (some ⟨g,0,none⟩)) (hv:tmps.getD u undef = v) (hg:w.heap[g]? = some (.cells cs t fr))
   (hu:P.underlying ty = some d) (hd:(match d with | .struct _ | .array _ _ => true | _ => false) = true) (hi:(P.info? ty).map (·.size) = some cs.size) :
   (results fn tmps).run P w = .ok (.tuple #[v,.agg cs]) w:=by
 subst hv;have hp':tmps[p]?.getD undef = .pointer (some ⟨g,0,none⟩):=by simpa using hp
 simp [results,h,hp',asAddr,run_loadVar_row w g t ty cs fr d hg hu hd hi]
theorem two_set {w:World} {g:Nat} {a b:Value} {t:TypeId} {W:World} (h:HR w g #[a,b] t W) (c d:Value):HR w g #[c,d] t ((W.setCell ⟨g,0,none⟩ c).setCell ⟨g,1,none⟩ d):=by
 have h1:=heap_setCell_same W g 0 #[a,b] t c h.row;exact ⟨heap_setCell_same _ g 1 _ t d h1⟩
end Tlv
namespace Tree
open Tlv Strs
theorem hb5 {w:World} {K:World -> Prop} {g:Nat} {a b c d e:Value} {W:World} (h:Hid (HB w K g #[a,b,c,d,e] W)):Hid (HB w K g #[a,b,c,d,e] W) /\ W.cell? ⟨g,0,none⟩ = some a /\ W.cell? ⟨g,1,none⟩ = some b /\ W.cell? ⟨g,2,none⟩ = some c /\ W.cell? ⟨g,3,none⟩ = some d /\ W.cell? ⟨g,4,none⟩ = some e :=
 ⟨h,h.out.cell 0 _ rfl,h.out.cell 1 _ rfl,h.out.cell 2 _ rfl,h.out.cell 3 _ rfl,h.out.cell 4 _ rfl⟩
abbrev nv (c t:Int) (b:Bool) (d:ByteArray) (x:Value):Value:=.agg #[.int .i64 c,.int .i64 t,.bool b,.string d,x]
set_option maxHeartbeats 2000000 in
theorem pr_bad (c t:Int) (b:Bool) (d:ByteArray) (A:Option Addr) (n q:Nat) (q1 q2 q3 q4:Bool) (t1:decide (c < 0) = q1) (t2:decide (3 < c) = q2) (t3:decide (t < 0) = q3) (t4:decide (2097151 < t) = q4) (h:(q1 || q2 || q3 || q4) = true):Mak 162 #[nv c t b d (.slice A n q)] (.bool false):=by
 cases q1
 · cases q2
   · cases q3
     · cases q4
       · cases h
       · clear h;intro w;have hp:=lH (hb_new w KT trivial #[.int .i64 c,.int .i64 t,.bool b,.string d,.slice A n q] 87);obtain ⟨_,m0,m1,m2,m3,m4⟩:=hb5 hp
         go_enter Tryz.func162,Tryz.ntmps162
         go_wp2_with fail;go_ret;exact ⟨rfl,hp.out.since⟩
     · clear h;intro w;have hp:=lH (hb_new w KT trivial #[.int .i64 c,.int .i64 t,.bool b,.string d,.slice A n q] 87);obtain ⟨_,m0,m1,m2,m3,m4⟩:=hb5 hp
       go_enter Tryz.func162,Tryz.ntmps162
       go_wp2_with fail;go_ret;exact ⟨rfl,hp.out.since⟩
   · clear h;intro w;have hp:=lH (hb_new w KT trivial #[.int .i64 c,.int .i64 t,.bool b,.string d,.slice A n q] 87);obtain ⟨_,m0,m1,m2,m3,m4⟩:=hb5 hp
     go_enter Tryz.func162,Tryz.ntmps162
     go_wp2_with fail;go_ret;exact ⟨rfl,hp.out.since⟩
 · clear h;intro w;have hp:=lH (hb_new w KT trivial #[.int .i64 c,.int .i64 t,.bool b,.string d,.slice A n q] 87);obtain ⟨_,m0,m1,m2,m3,m4⟩:=hb5 hp
   go_enter Tryz.func162,Tryz.ntmps162
   go_wp2_with fail;go_ret;exact ⟨rfl,hp.out.since⟩
set_option maxHeartbeats 2000000 in
theorem pr_cons (c t:Int) (b:Bool) (hb:b = true) (d:ByteArray) (A:Option Addr) (n q:Nat) (t1:decide (c < 0) = false) (t2:decide (3 < c) = false) (t3:decide (t < 0) = false) (t4:decide (2097151 < t) = false) (q5 q6 q7 q8 Q:Bool) (t5:d.toList.isEmpty = q5) (t6:(c != 0) = q6) (t7:(t == 16) = q7) (t8:(t == 17) = q8) (hQ:Q = (q5 && (q6 || q7 || q8))):Mak 162 #[nv c t b d (.slice A n q)] (.bool Q):=by
 subst hb hQ;cases q5
 · intro w;have hp:=lH (hb_new w KT trivial #[.int .i64 c,.int .i64 t,.bool true,.string d,.slice A n q] 87);obtain ⟨_,m0,m1,m2,m3,m4⟩:=hb5 hp
   go_enter Tryz.func162,Tryz.ntmps162
   go_wp2_with fail;go_ret;exact ⟨rfl,hp.out.since⟩
 · cases q6
   · cases q7
     · cases q8
       · intro w;have hp:=lH (hb_new w KT trivial #[.int .i64 c,.int .i64 t,.bool true,.string d,.slice A n q] 87);obtain ⟨_,m0,m1,m2,m3,m4⟩:=hb5 hp
         go_enter Tryz.func162,Tryz.ntmps162
         go_wp2_with fail;go_ret;exact ⟨rfl,hp.out.since⟩
       · intro w;have hp:=lH (hb_new w KT trivial #[.int .i64 c,.int .i64 t,.bool true,.string d,.slice A n q] 87);obtain ⟨_,m0,m1,m2,m3,m4⟩:=hb5 hp
         go_enter Tryz.func162,Tryz.ntmps162
         go_wp2_with fail;go_ret;exact ⟨rfl,hp.out.since⟩
     · intro w;have hp:=lH (hb_new w KT trivial #[.int .i64 c,.int .i64 t,.bool true,.string d,.slice A n q] 87);obtain ⟨_,m0,m1,m2,m3,m4⟩:=hb5 hp
       go_enter Tryz.func162,Tryz.ntmps162
       go_wp2_with fail;go_ret;exact ⟨rfl,hp.out.since⟩
   · intro w;have hp:=lH (hb_new w KT trivial #[.int .i64 c,.int .i64 t,.bool true,.string d,.slice A n q] 87);obtain ⟨_,m0,m1,m2,m3,m4⟩:=hb5 hp
     go_enter Tryz.func162,Tryz.ntmps162
     go_wp2_with fail;go_ret;exact ⟨rfl,hp.out.since⟩
set_option maxHeartbeats 2000000 in
theorem pr_prim (c t:Int) (b:Bool) (hb:b = false) (d:ByteArray) (A:Option Addr) (n q:Nat) (t1:decide (c < 0) = false) (t2:decide (3 < c) = false) (t3:decide (t < 0) = false) (t4:decide (2097151 < t) = false) (q5 q6 q7 Q:Bool) (t5:((n:Int) == 0) = q5) (t6:(c != 0) = q6) (c7:Mak 163 #[.int .i64 t,.string d] (.bool q7)) (hQ:Q = (q5 && (q6 || q7))):Mak 162 #[nv c t b d (.slice A n q)] (.bool Q):=by
 subst hb hQ;cases q5
 · intro w;have hp:=lH (hb_new w KT trivial #[.int .i64 c,.int .i64 t,.bool false,.string d,.slice A n q] 87);obtain ⟨_,m0,m1,m2,m3,m4⟩:=hb5 hp
   go_enter Tryz.func162,Tryz.ntmps162
   go_wp2_with fail;go_ret;exact ⟨rfl,hp.out.since⟩
 · cases q6
   · intro w;have hp:=lH (hb_new w KT trivial #[.int .i64 c,.int .i64 t,.bool false,.string d,.slice A n q] 87);obtain ⟨_,m0,m1,m2,m3,m4⟩:=hb5 hp
     go_enter Tryz.func162,Tryz.ntmps162
     go_wp2_with fail;refine c7.calls0 ?_;intro w1 h1;replace hp:=hbstep h1 hp;clear h1;go_wp2_with fail;go_ret;exact ⟨rfl,hp.out.since⟩
   · intro w;have hp:=lH (hb_new w KT trivial #[.int .i64 c,.int .i64 t,.bool false,.string d,.slice A n q] 87);obtain ⟨_,m0,m1,m2,m3,m4⟩:=hb5 hp
     go_enter Tryz.func162,Tryz.ntmps162
     go_wp2_with fail;go_ret;exact ⟨rfl,hp.out.since⟩
theorem pr_mak (x:Nd) (A:Option Addr) (q:Nat) (c7:Mak 163 #[.int .i64 x.t,.string x.d] (.bool (rightB x.t x.d))):Mak 162 #[nv x.c x.t x.b x.d (.slice A x.k.length q)] (.bool (oneB rightB x)):=by
 obtain ⟨c,t,b,d,k⟩:=x;dsimp only at c7 ⊢
 by_cases hr:(decide (c < 0) || decide (3 < c) || decide (t < 0) || decide (2097151 < t)) = true
 · have e:oneB rightB ⟨c,t,b,d,k⟩ = false:=by
     simp only [Bool.or_eq_true,decide_eq_true_eq] at hr;unfold oneB;rw [Bool.and_eq_false_iff];refine .inl ?_;simp only [Bool.and_eq_false_iff,decide_eq_false_iff_not];omega
   rw [e];exact pr_bad c t b d A k.length q _ _ _ _ rfl rfl rfl rfl hr
 · simp only [Bool.or_eq_true,decide_eq_true_eq] at hr;have e0:oneB rightB ⟨c,t,b,d,k⟩ = (if b then decide (d.size = 0) && (decide (c ≠ 0) || decide (t = 16) || decide (t = 17)) else decide (k.length = 0) && (decide (c ≠ 0) || rightB t d)):=by
     unfold oneB;dsimp only;rw [decide_eq_true (show 0 <= c by omega),decide_eq_true (show c <= 3 by omega),decide_eq_true (show 0 <= t by omega),decide_eq_true (show t <= 2097151 by omega)];rfl
   rw [e0];cases b with
   | true =>
     refine pr_cons c t true rfl d A k.length q (decide_eq_false (by omega)) (decide_eq_false (by omega)) (decide_eq_false (by omega)) (decide_eq_false (by omega)) _ _ _ _ _ rfl rfl rfl rfl ?_;rw [if_pos rfl]
     congr 1
     · rw [toList_d]
       show decide (d.data.toList.length = 0) = _
       cases d.data.toList <;> simp
     · congr 1
       congr 1
       rw [Bool.eq_iff_iff]; simp
   | false =>
     refine pr_prim c t false rfl d A k.length q (decide_eq_false (by omega)) (decide_eq_false (by omega)) (decide_eq_false (by omega)) (decide_eq_false (by omega)) _ _ _ _ rfl rfl c7 ?_;rw [if_neg (by decide)]
     congr 1
     · rw [Bool.eq_iff_iff,decide_eq_true_iff,beq_iff_eq]; omega
     · congr 1
       rw [Bool.eq_iff_iff]; simp
set_option maxHeartbeats 2000000 in
theorem on_bad (c t:Int) (b:Bool) (d:ByteArray) (A:Option Addr) (n q:Nat) (q1 q2 q3 q4:Bool) (t1:decide (c < 0) = q1) (t2:decide (3 < c) = q2) (t3:decide (t < 0) = q3) (t4:decide (2097151 < t) = q4) (h:(q1 || q2 || q3 || q4) = true):Mak 140 #[nv c t b d (.slice A n q)] (.bool false):=by
 cases q1
 · cases q2
   · cases q3
     · cases q4
       · cases h
       · clear h;intro w;have hp:=lH (hb_new w KT trivial #[.int .i64 c,.int .i64 t,.bool b,.string d,.slice A n q] 87);obtain ⟨_,m0,m1,m2,m3,m4⟩:=hb5 hp
         go_enter Tryz.func140,Tryz.ntmps140
         go_wp2_with fail;go_ret;exact ⟨rfl,hp.out.since⟩
     · clear h;intro w;have hp:=lH (hb_new w KT trivial #[.int .i64 c,.int .i64 t,.bool b,.string d,.slice A n q] 87);obtain ⟨_,m0,m1,m2,m3,m4⟩:=hb5 hp
       go_enter Tryz.func140,Tryz.ntmps140
       go_wp2_with fail;go_ret;exact ⟨rfl,hp.out.since⟩
   · clear h;intro w;have hp:=lH (hb_new w KT trivial #[.int .i64 c,.int .i64 t,.bool b,.string d,.slice A n q] 87);obtain ⟨_,m0,m1,m2,m3,m4⟩:=hb5 hp
     go_enter Tryz.func140,Tryz.ntmps140
     go_wp2_with fail;go_ret;exact ⟨rfl,hp.out.since⟩
 · clear h;intro w;have hp:=lH (hb_new w KT trivial #[.int .i64 c,.int .i64 t,.bool b,.string d,.slice A n q] 87);obtain ⟨_,m0,m1,m2,m3,m4⟩:=hb5 hp
   go_enter Tryz.func140,Tryz.ntmps140
   go_wp2_with fail;go_ret;exact ⟨rfl,hp.out.since⟩
set_option maxHeartbeats 2000000 in
theorem on_cons (c t:Int) (b:Bool) (hb:b = true) (d:ByteArray) (A:Option Addr) (n q:Nat) (t1:decide (c < 0) = false) (t2:decide (3 < c) = false) (t3:decide (t < 0) = false) (t4:decide (2097151 < t) = false) (q5 q6 q7 q8 Q:Bool) (t5:d.toList.isEmpty = q5) (t6:(c != 0) = q6) (t7:(t == 16) = q7) (t8:(t == 17) = q8) (hQ:Q = (q5 && (q6 || q7 || q8))):Mak 140 #[nv c t b d (.slice A n q)] (.bool Q):=by
 subst hb hQ;cases q5
 · intro w;have hp:=lH (hb_new w KT trivial #[.int .i64 c,.int .i64 t,.bool true,.string d,.slice A n q] 87);obtain ⟨_,m0,m1,m2,m3,m4⟩:=hb5 hp
   go_enter Tryz.func140,Tryz.ntmps140
   go_wp2_with fail;go_ret;exact ⟨rfl,hp.out.since⟩
 · cases q6
   · cases q7
     · cases q8
       · intro w;have hp:=lH (hb_new w KT trivial #[.int .i64 c,.int .i64 t,.bool true,.string d,.slice A n q] 87);obtain ⟨_,m0,m1,m2,m3,m4⟩:=hb5 hp
         go_enter Tryz.func140,Tryz.ntmps140
         go_wp2_with fail;go_ret;exact ⟨rfl,hp.out.since⟩
       · intro w;have hp:=lH (hb_new w KT trivial #[.int .i64 c,.int .i64 t,.bool true,.string d,.slice A n q] 87);obtain ⟨_,m0,m1,m2,m3,m4⟩:=hb5 hp
         go_enter Tryz.func140,Tryz.ntmps140
         go_wp2_with fail;go_ret;exact ⟨rfl,hp.out.since⟩
     · intro w;have hp:=lH (hb_new w KT trivial #[.int .i64 c,.int .i64 t,.bool true,.string d,.slice A n q] 87);obtain ⟨_,m0,m1,m2,m3,m4⟩:=hb5 hp
       go_enter Tryz.func140,Tryz.ntmps140
       go_wp2_with fail;go_ret;exact ⟨rfl,hp.out.since⟩
   · intro w;have hp:=lH (hb_new w KT trivial #[.int .i64 c,.int .i64 t,.bool true,.string d,.slice A n q] 87);obtain ⟨_,m0,m1,m2,m3,m4⟩:=hb5 hp
     go_enter Tryz.func140,Tryz.ntmps140
     go_wp2_with fail;go_ret;exact ⟨rfl,hp.out.since⟩
set_option maxHeartbeats 2000000 in
theorem on_prim (c t:Int) (b:Bool) (hb:b = false) (d:ByteArray) (A:Option Addr) (n q:Nat) (t1:decide (c < 0) = false) (t2:decide (3 < c) = false) (t3:decide (t < 0) = false) (t4:decide (2097151 < t) = false) (q5 q6 q7 Q:Bool) (t5:((n:Int) == 0) = q5) (t6:(c != 0) = q6) (c7:Mak 164 #[.int .i64 t,.string d] (.bool q7)) (hQ:Q = (q5 && (q6 || q7))):Mak 140 #[nv c t b d (.slice A n q)] (.bool Q):=by
 subst hb hQ;cases q5
 · intro w;have hp:=lH (hb_new w KT trivial #[.int .i64 c,.int .i64 t,.bool false,.string d,.slice A n q] 87);obtain ⟨_,m0,m1,m2,m3,m4⟩:=hb5 hp
   go_enter Tryz.func140,Tryz.ntmps140
   go_wp2_with fail;go_ret;exact ⟨rfl,hp.out.since⟩
 · cases q6
   · intro w;have hp:=lH (hb_new w KT trivial #[.int .i64 c,.int .i64 t,.bool false,.string d,.slice A n q] 87);obtain ⟨_,m0,m1,m2,m3,m4⟩:=hb5 hp
     go_enter Tryz.func140,Tryz.ntmps140
     go_wp2_with fail;refine c7.calls0 ?_;intro w1 h1;replace hp:=hbstep h1 hp;clear h1;go_wp2_with fail;go_ret;exact ⟨rfl,hp.out.since⟩
   · intro w;have hp:=lH (hb_new w KT trivial #[.int .i64 c,.int .i64 t,.bool false,.string d,.slice A n q] 87);obtain ⟨_,m0,m1,m2,m3,m4⟩:=hb5 hp
     go_enter Tryz.func140,Tryz.ntmps140
     go_wp2_with fail;go_ret;exact ⟨rfl,hp.out.since⟩
theorem on_mak (x:Nd) (A:Option Addr) (q:Nat) (c7:Mak 164 #[.int .i64 x.t,.string x.d] (.bool (rightB x.t x.d))):Mak 140 #[nv x.c x.t x.b x.d (.slice A x.k.length q)] (.bool (oneB rightB x)):=by
 obtain ⟨c,t,b,d,k⟩:=x;dsimp only at c7 ⊢
 by_cases hr:(decide (c < 0) || decide (3 < c) || decide (t < 0) || decide (2097151 < t)) = true
 · have e:oneB rightB ⟨c,t,b,d,k⟩ = false:=by
     simp only [Bool.or_eq_true,decide_eq_true_eq] at hr;unfold oneB;rw [Bool.and_eq_false_iff];refine .inl ?_;simp only [Bool.and_eq_false_iff,decide_eq_false_iff_not];omega
   rw [e];exact on_bad c t b d A k.length q _ _ _ _ rfl rfl rfl rfl hr
 · simp only [Bool.or_eq_true,decide_eq_true_eq] at hr;have e0:oneB rightB ⟨c,t,b,d,k⟩ = (if b then decide (d.size = 0) && (decide (c ≠ 0) || decide (t = 16) || decide (t = 17)) else decide (k.length = 0) && (decide (c ≠ 0) || rightB t d)):=by
     unfold oneB;dsimp only;rw [decide_eq_true (show 0 <= c by omega),decide_eq_true (show c <= 3 by omega),decide_eq_true (show 0 <= t by omega),decide_eq_true (show t <= 2097151 by omega)];rfl
   rw [e0];cases b with
   | true =>
     refine on_cons c t true rfl d A k.length q (decide_eq_false (by omega)) (decide_eq_false (by omega)) (decide_eq_false (by omega)) (decide_eq_false (by omega)) _ _ _ _ _ rfl rfl rfl rfl ?_;rw [if_pos rfl]
     congr 1
     · rw [toList_d]
       show decide (d.data.toList.length = 0) = _
       cases d.data.toList <;> simp
     · congr 1
       congr 1
       rw [Bool.eq_iff_iff]; simp
   | false =>
     refine on_prim c t false rfl d A k.length q (decide_eq_false (by omega)) (decide_eq_false (by omega)) (decide_eq_false (by omega)) (decide_eq_false (by omega)) _ _ _ _ rfl rfl c7 ?_;rw [if_neg (by decide)]
     congr 1
     · rw [Bool.eq_iff_iff,decide_eq_true_iff,beq_iff_eq]; omega
     · congr 1
       rw [Bool.eq_iff_iff]; simp
end Tree
end Go.Proofs.YtpanhhjkecebkaaGreat
