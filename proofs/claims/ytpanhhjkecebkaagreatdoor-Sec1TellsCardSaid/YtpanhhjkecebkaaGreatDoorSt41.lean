import Derived.Test.YtpanhhjkecebkaaGreatDoorSt36
import Derived.Test.YtpanhhjkecebkaaGreatDoorSt24
import Derived.Test.YtpanhhjkecebkaaGreatDoorSt10
set_option maxRecDepth 100000
namespace Go.Proofs.YtpanhhjkecebkaaGreatDoor
open Go.RowKit
namespace Tlv
open Span Flt Rw
theorem at_store {P:Program} {ops:Array Oper} {Q:Exit -> Act -> World -> Prop} {o:Oper} {rest:List Oper} {a:Act} {w:World} {ty:TypeId} {x y:Operand} (_:o.op = .store ty x y) (h:wpList P ops Q (o :: rest) a w):wpList P ops Q (o :: rest) a w:=h
theorem rows_drop {w:World} {base:Nat} {r:Row} {rs:List Row} (h:Rw.Rows w base (r :: rs)):Rw.Rows w base rs:=⟨fun x hx => h.own x (by simp [hx]),(List.pairwise_cons.1 h.apart).2⟩
theorem rows_dropN {w:World} {base:Nat} (A:List Row) {rs:List Row} (h:Rw.Rows w base (A ++ rs)):Rw.Rows w base rs:=⟨fun x hx => h.own x (by simp [hx]),(List.pairwise_append.1 h.apart).2.1⟩
theorem rows_ins {w:World} {base:Nat} (A B:List Row) (h:Rw.Rows w base (A ++ B)) (e:TypeId) (k:Nat):Rw.Rows w base (A ++ ⟨e,k,.slice none 0 0,0,[]⟩ :: B):=by
 obtain ⟨ho,ha⟩:=h
 rw [List.pairwise_append] at ha
 obtain ⟨a1,a2,a3⟩:=ha
 refine ⟨fun r hr => ?_, ?_⟩
 · rcases List.mem_append.1 hr with hr | hr
   · exact ho r (by simp [hr])
   · rcases List.mem_cons.1 hr with rfl | hr
     · exact World.ownsRow_nil w base e k
     · exact ho r (by simp [hr])
 · rw [List.pairwise_append,List.pairwise_cons]
   refine ⟨a1,⟨fun b _ => Apart.none,a2⟩,fun a ha b hb => ?_⟩
   rcases List.mem_cons.1 hb with rfl | hb
   · exact Apart.none.symm
   · exact a3 a ha b hb
def lone (t:TypeId) (g:Nat) (C:List Value):Row:=⟨t,C.length,.slice (some ⟨g,0,none⟩) 1 1,1,C⟩
theorem rows_push {w:World} {base:Nat} {rs:List Row} (h:Rw.Rows w base rs) (hb:base <= w.heap.size) (C:List Value) (t:TypeId):Rw.Rows (w.alloc (.cells C.toArray t)) base (lone t w.heap.size C :: rs):=by
 obtain ⟨ho,ha⟩:=h
 refine ⟨fun r hr => ?_,List.pairwise_cons.2 ⟨fun r hr g hg => ?_,ha⟩⟩
 · rcases List.mem_cons.1 hr with rfl | hr
   · refine ⟨by simp [lone],.inr ⟨w.heap.size,1,C.toArray,rfl,hb,heap_alloc_new w _,Nat.le_refl _,by decide,by simp [lone], ?_⟩⟩
     simp [lone]
   · exact World.ownsRow.alloc (ho r hr) _
 · intro h2
   have h3:g = w.heap.size:=by cases hg; rfl
   have h4:=(World.ownsRow.lt (ho r hr) g h2).2
   omega
theorem lone_heap {w:World} {base:Nat} {t:TypeId} {g:Nat} {C:List Value} (h:(lone t g C).own w base):w.heap[g]? = some (.cells C.toArray t (0,0)):=by
 rcases h.2 with ⟨h0,_⟩ | ⟨g',cap,cur,hv,hb,hg,hc,hm,hs,ht⟩
 · cases h0
 · cases hv
   rw [hg]
   congr 2
   apply Array.ext'
   have h1:cur.toList.length = 1 * C.length:=by simpa [lone] using hs
   have h2:cur.toList.take (1 * C.length) = C:=ht
   rw [<- h1,List.take_length] at h2
   exact h2
theorem lone_cell {w:World} {base:Nat} {t:TypeId} {g:Nat} {C:List Value} (h:(lone t g C).own w base) (i:Nat) (v:Value) (hv:C[i]? = some v):w.cell? ⟨g,i,none⟩ = some v /\ w.frozen? ⟨g,i,none⟩ = false:=by
 have h1:=lone_heap h
 refine ⟨?_,frozen_of_row _ _ i _ _ h1⟩
 unfold World.cell?
 rw [h1]
 simpa using hv
def RR (g:Nat) (s:ByteArray) (tv fv ov:Value) (ns:List (Nd × Value)) (fr to:List Nat) (X:List Row):List Row :=
 lone 85 g [.string s,tv,fv,ov] :: ⟨49,5,tv,ns.length,ns.flatMap nc⟩ :: ⟨3,1,fv,fr.length,fr.map (fun i:Nat => Value.int .i64 (i:Int))⟩ :: ⟨3,1,ov,to.length,to.map (fun i:Nat => Value.int .i64 (i:Int))⟩ :: (ns.map kr ++ X)
structure RS (w0:World) (g:Nat) (s:ByteArray) (tv fv ov:Value) (ns:List (Nd × Value)) (fr to:List Nat) (X:List Row) (W:World):Prop where
 rows:Rw.Rows W w0.heap.size (RR g s tv fv ov ns fr to X)
 since:Since w0 W
section
variable {w0:World} {g:Nat} {s:ByteArray} {tv fv ov:Value} {ns:List (Nd × Value)} {fr to:List Nat} {X:List Row} {W:World}
theorem RS.step {W':World} (h:RS w0 g s tv fv ov ns fr to X W) (hb:Since W W'):RS w0 g s tv fv ov ns fr to X W':=⟨h.rows.since hb,h.since.step hb⟩
theorem RS.cells (h:RS w0 g s tv fv ov ns fr to X W):W.cell? ⟨g,0,none⟩ = some (.string s) /\ W.cell? ⟨g,1,none⟩ = some tv /\ W.cell? ⟨g,2,none⟩ = some fv /\ W.cell? ⟨g,3,none⟩ = some ov /\ ∀ i,W.frozen? ⟨g,i,none⟩ = false:=by
 have h1:=h.rows.own (lone 85 g [.string s,tv,fv,ov]) (by unfold RR; simp)
 have h2:=lone_heap h1
 exact ⟨(lone_cell h1 0 _ rfl).1,(lone_cell h1 1 _ rfl).1,(lone_cell h1 2 _ rfl).1,(lone_cell h1 3 _ rfl).1,fun i => frozen_of_row _ _ i _ _ h2⟩
theorem RS.tvo (h:RS w0 g s tv fv ov ns fr to X W):W.ownsRow w0.heap.size 49 5 tv ns.length (ns.flatMap nc):=h.rows.own ⟨49,5,tv,ns.length,ns.flatMap nc⟩ (by unfold RR; simp)
theorem RS.push (h:RS w0 g s tv fv ov ns fr to X W) (C:List Value) (t:TypeId):RS w0 g s tv fv ov ns fr to (lone t W.heap.size C :: X) (W.alloc (.cells C.toArray t)):=by
 refine ⟨?_,h.since.alloc _⟩
 have h1:=rows_push h.rows (Below.size h.since) C t
 obtain ⟨ho,ha⟩:=h1
 have hp:(lone t W.heap.size C :: RR g s tv fv ov ns fr to X).Perm (RR g s tv fv ov ns fr to (lone t W.heap.size C :: X)):=by
   unfold RR
   have h2:(ns.map kr ++ lone t W.heap.size C :: X).Perm (lone t W.heap.size C :: (ns.map kr ++ X)):=List.perm_middle
   refine List.Perm.trans ?_ (((h2.symm.cons _).cons _).cons _ |>.cons _)
   refine List.Perm.trans (List.Perm.swap _ _ _) (List.Perm.cons _ ?_)
   refine List.Perm.trans (List.Perm.swap _ _ _) (List.Perm.cons _ ?_)
   refine List.Perm.trans (List.Perm.swap _ _ _) (List.Perm.cons _ ?_)
   exact List.Perm.swap _ _ _
 exact ⟨fun r hr => ho r (hp.mem_iff.2 hr),(hp.pairwise_iff (fun h => Apart.symm h)).1 ha⟩
theorem RS.pop {x:Row} (h:RS w0 g s tv fv ov ns fr to (x :: X) W):RS w0 g s tv fv ov ns fr to X W:=by
 refine ⟨⟨fun r hr => h.rows.own r ?_, ?_⟩,h.since⟩
 · unfold RR at hr ⊢
   simp only [List.mem_cons,List.mem_append] at hr ⊢
   rcases hr with hr | hr | hr | hr | hr | hr
   · exact .inl hr
   · exact .inr (.inl hr)
   · exact .inr (.inr (.inl hr))
   · exact .inr (.inr (.inr (.inl hr)))
   · exact .inr (.inr (.inr (.inr (.inl hr))))
   · exact .inr (.inr (.inr (.inr (.inr (.inr hr)))))
 · refine List.Pairwise.sublist ?_ h.rows.apart
   unfold RR
   exact (((List.Sublist.append_left (List.sublist_cons_self x X) (ns.map kr)).cons_cons _).cons_cons _).cons_cons _ |>.cons_cons _
theorem RS.others (h:RS w0 g s tv fv ov ns fr to X W):Rw.Rows W w0.heap.size X:=by
 have h1:=h.rows
 unfold RR at h1
 have h2:=rows_drop (rows_drop (rows_drop (rows_drop h1)))
 exact rows_dropN _ h2
end
theorem step_rows {T E:TypeId} {z:Value} {size bytes:Nat} (I:ElemIs T E z size bytes) {ops:Array Oper} {o:Oper} {a:Act} {K:Act -> World -> Prop} {Q:Exit -> Act -> World -> Prop} {E':Prop} (hgd:o.guard = none) (s x:Operand)
   (ho:o.op = .call { callee:=.builtin .append,args:=#[s,x],argTypes:=#[T,T] })
   (w0 w:World) (A B:List Row) (v:Value) (n:Nat) (xs:List Value) (hs:a.eval s = v) (hown:Rw.Rows w w0.heap.size (A ++ ⟨E,size,v,n,xs⟩ :: B)) (hS:Since w0 w)
   (g0:Nat) (ys:List Value) (c m:Nat) (hx:a.eval x = .slice (some ⟨g0,0,none⟩) m c) (hc:∀ j u,ys[j]? = some u -> w.cell? ⟨g0,j,none⟩ = some u) (hl:ys.length = m * size) (hm:0 < m) (h1:∀ u ∈ ys,u.oneCell' = true) (hn:n + m <= maxLen) (hby:(n + m) * bytes <= 140737488355328)
   (h:∀ v' w',Rw.Rows w' w0.heap.size (A ++ ⟨E,size,v',n + m,xs ++ ys⟩ :: B) -> Since w0 w' -> K (a.put o.dst v') w') :
   if Region.wanted o (yielded ops a.tmps) = true then Oper.wp Tryz.prog o a w K Q else E':=by
 obtain ⟨ht,hi,hz,hs0⟩:=I
 obtain ⟨i,hi1,hi2⟩:=Option.map_eq_some_iff.1 hi
 simp only [Prod.mk.injEq] at hi2
 have hown1:=hown.get
 refine step_append_lies w hgd s x T ho w0.heap.size E i z size bytes ht hi1 hi2.1 hi2.2.1 hi2.2.2 hz hs0 v n xs hs hown1 ⟨g0,0,none⟩ m c ys hx hl ?_ h1 hm hn hby (Below.size hS) w.heap.size rfl ?_
 · intro j u hu
   have hadd:(⟨g0,0,none⟩:Addr).add j = ⟨g0,j,none⟩:=by unfold Addr.add; split <;> simp_all
   rw [hadd]
   exact hc j u hu
 · intro g cap w' hown' hg hat hlt
   refine h _ w' (hown.turn ⟨E,size,_,n + m,xs ++ ys⟩ hown' fun u hu hap => ⟨?_, ?_⟩) (Below.grown hS hg (Below.size hS) (fun k hk => (hown1.lt k hk).1))
   · refine World.ownsRow.kept hu hg ?_
     cases hub:u.v.ownBlock with
     | none => exact Or.inl rfl
     | some b => exact Or.inr fun e => hap b e.symm hub
   · intro b h2 h3
     cases h2
     rcases hat with hat | hat
     · exact hap _ hat h3
     · have h4:g < w.heap.size:=(World.ownsRow.lt hu _ h3).2
       omega
section
variable {w0:World} {g:Nat} {s:ByteArray} {tv fv ov:Value} {ns:List (Nd × Value)} {fr to:List Nat} {X:List Row} {W:World}
theorem rsD (h:Hid (RS w0 g s tv fv ov ns fr to X W)):Hid (RS w0 g s tv fv ov ns fr to X W.drew):=lH (h.out.step (Since.drew (Since.refl _)))
theorem rsA (o:Obj) (h:Hid (RS w0 g s tv fv ov ns fr to X W)):Hid (RS w0 g s tv fv ov ns fr to X (W.alloc o)):=lH (h.out.step (Since.alloc (Since.refl _) o))
theorem en_s {gN:Nat} {a b c d e:Value} (h:Hid (RS w0 g s tv fv ov ns fr to (lone 49 gN [a,b,c,d,e] :: X) W)):Hid (RS w0 g s tv fv ov ns fr to (lone 49 gN [a,b,c,d,e] :: X) W) /\ W.cell? ⟨g,1,none⟩ = some tv /\
   W.cell? ⟨gN,0,none⟩ = some a /\ W.cell? ⟨gN,1,none⟩ = some b /\ W.cell? ⟨gN,2,none⟩ = some c /\ W.cell? ⟨gN,3,none⟩ = some d /\ W.cell? ⟨gN,4,none⟩ = some e:=by
 have h1:=h.out.others.own (lone 49 gN [a,b,c,d,e]) (by simp)
 exact ⟨h,h.out.cells.2.1,(lone_cell h1 0 _ rfl).1,(lone_cell h1 1 _ rfl).1,(lone_cell h1 2 _ rfl).1,(lone_cell h1 3 _ rfl).1,(lone_cell h1 4 _ rfl).1⟩
theorem hd_s {gH:Nat} {a b c d:Value} (h:Hid (RS w0 g s tv fv ov ns fr to (lone 111 gH [a,b,c,d] :: X) W)):Hid (RS w0 g s tv fv ov ns fr to (lone 111 gH [a,b,c,d] :: X) W) /\ W.cell? ⟨g,0,none⟩ = some (.string s) /\
   W.cell? ⟨gH,0,none⟩ = some a /\ W.cell? ⟨gH,1,none⟩ = some b /\ W.cell? ⟨gH,2,none⟩ = some c /\ W.cell? ⟨gH,3,none⟩ = some d:=by
 have h1:=h.out.others.own (lone 111 gH [a,b,c,d]) (by simp)
 exact ⟨h,h.out.cells.1,(lone_cell h1 0 _ rfl).1,(lone_cell h1 1 _ rfl).1,(lone_cell h1 2 _ rfl).1,(lone_cell h1 3 _ rfl).1⟩
theorem RS.lt (h:RS w0 g s tv fv ov ns fr to X W):g < W.heap.size:=(Array.getElem?_eq_some_iff.1 (lone_heap (h.rows.own (lone 85 g [.string s,tv,fv,ov]) (by unfold RR; simp)))).1
theorem RS.ltX {t:TypeId} {gb:Nat} {C:List Value} (h:RS w0 g s tv fv ov ns fr to (lone t gb C :: X) W):gb < W.heap.size:=(Array.getElem?_eq_some_iff.1 (lone_heap (h.others.own (lone t gb C) (by simp)))).1
theorem rsS {W':World} (hb:Since W W') (h:Hid (RS w0 g s tv fv ov ns fr to X W)):Hid (RS w0 g s tv fv ov ns fr to X W'):=lH (h.out.step hb)
theorem alloc_cell (w:World) (C:List Value) (t:TypeId) (j:Nat) (u:Value) (h:C[j]? = some u):(w.alloc (.cells C.toArray t)).cell? ⟨w.heap.size,j,none⟩ = some u:=by
 unfold World.cell?
 rw [heap_alloc_new]
 simpa using h
theorem alloc_cell_at (w:World) (C:List Value) (t:TypeId) (G:Nat) (hG:w.heap.size = G) (j:Nat) (u:Value) (h:C[j]? = some u):(w.alloc (.cells C.toArray t)).cell? ⟨G,j,none⟩ = some u:=by
 subst hG
 exact alloc_cell w C t j u h
theorem lone_base {w:World} {base:Nat} {t:TypeId} {C:List Value} (h:(lone t g C).own w base):base <= g:=by
 rcases h.2 with ⟨h0,_⟩ | ⟨g',cap,cur,hv,hb,_⟩
 · cases h0
 · cases hv; exact hb
theorem rs_node {tv2:Value} {c t:Int} {b:Bool} {d:ByteArray} (hQ:Rw.Rows W w0.heap.size ([lone 85 g [.string s,tv,fv,ov]] ++ ⟨49,5,tv2,ns.length + 1,ns.flatMap nc ++ [.int .i64 c,.int .i64 t,.bool b,.string d,.slice none 0 0]⟩ :: ((RR g s tv fv ov ns fr to X).drop 2))) (hS:Since w0 W) :
   RS w0 g s tv2 fv ov (ns ++ [(⟨c,t,b,d,[]⟩,.slice none 0 0)]) fr to X (W.setCell ⟨g,1,none⟩ tv2):=by
 have hg:=lone_base (hQ.own (lone 85 g [.string s,tv,fv,ov]) (by simp))
 have h1:=Rw.Rows.set (A:=[]) (B:=⟨49,5,tv2,ns.length + 1,ns.flatMap nc ++ [.int .i64 c,.int .i64 t,.bool b,.string d,.slice none 0 0]⟩ :: ((RR g s tv fv ov ns fr to X).drop 2)) (e:=85) (k:=4) (g:=g) (n:=1) (c:=1) (xs:=[.string s,tv,fv,ov]) hQ 1 (by decide) tv2
 refine ⟨?_,Below.setCell (p:=⟨g,1,none⟩) hS hg _⟩
 have h2:=rows_ins (⟨85,4,.slice (some ⟨g,0,none⟩) 1 1,1,[.string s,tv2,fv,ov]⟩ :: ⟨49,5,tv2,ns.length + 1,ns.flatMap nc ++ [.int .i64 c,.int .i64 t,.bool b,.string d,.slice none 0 0]⟩ :: ⟨3,1,fv,fr.length,fr.map (fun i:Nat => Value.int .i64 (i:Int))⟩ :: ⟨3,1,ov,to.length,to.map (fun i:Nat => Value.int .i64 (i:Int))⟩ :: ns.map kr) X h1 3 1
 have e1:RR g s tv2 fv ov (ns ++ [(⟨c,t,b,d,[]⟩,.slice none 0 0)]) fr to X = (⟨85,4,.slice (some ⟨g,0,none⟩) 1 1,1,[.string s,tv2,fv,ov]⟩ :: ⟨49,5,tv2,ns.length + 1,ns.flatMap nc ++ [.int .i64 c,.int .i64 t,.bool b,.string d,.slice none 0 0]⟩ :: ⟨3,1,fv,fr.length,fr.map (fun i:Nat => Value.int .i64 (i:Int))⟩ :: ⟨3,1,ov,to.length,to.map (fun i:Nat => Value.int .i64 (i:Int))⟩ :: ns.map kr) ++ ⟨3,1,.slice none 0 0,0,[]⟩ :: X:=by
   unfold RR
   rw [List.map_append,List.length_append,List.flatMap_append,List.append_assoc]
   show _ = _ :: _ :: _ :: _ :: (ns.map kr ++ _ :: X)
   simp only [List.flatMap_cons,List.flatMap_nil,List.append_nil,List.map_cons,List.map_nil]
   rfl
 rw [e1]
 exact h2
theorem rr_from (g:Nat) (s:ByteArray) (tv fv ov:Value) (ns:List (Nd × Value)) (fr to:List Nat) (X:List Row):RR g s tv fv ov ns fr to X = [lone 85 g [.string s,tv,fv,ov],⟨49,5,tv,ns.length,ns.flatMap nc⟩] ++ ⟨3,1,fv,fr.length,fr.map (fun i:Nat => Value.int .i64 (i:Int))⟩ :: ((RR g s tv fv ov ns fr to X).drop 3):=rfl
theorem rr_to (g:Nat) (s:ByteArray) (tv fv ov:Value) (ns:List (Nd × Value)) (fr to:List Nat) (X:List Row):RR g s tv fv ov ns fr to X = [lone 85 g [.string s,tv,fv,ov],⟨49,5,tv,ns.length,ns.flatMap nc⟩,⟨3,1,fv,fr.length,fr.map (fun i:Nat => Value.int .i64 (i:Int))⟩] ++ ⟨3,1,ov,to.length,to.map (fun i:Nat => Value.int .i64 (i:Int))⟩ :: ((RR g s tv fv ov ns fr to X).drop 4):=rfl
theorem rs_from {fv2:Value} {p:Nat} (h:Rw.Rows W w0.heap.size ([] ++ ⟨85,4,.slice (some ⟨g,0,none⟩) 1 1,1,[Value.string s,tv,fv,ov].set 2 fv2⟩ :: ([⟨49,5,tv,ns.length,ns.flatMap nc⟩] ++ ⟨3,1,fv2,fr.length + 1,fr.map (fun i:Nat => Value.int .i64 (i:Int)) ++ [.int .i64 (p:Int)]⟩ :: ((RR g s tv fv ov ns fr to X).drop 3)))) (hS:Since w0 W) :
   RS w0 g s tv fv2 ov ns (fr ++ [p]) to X W:=by
 refine ⟨?_,hS⟩
 unfold RR
 rw [List.length_append,List.map_append]
 exact h
theorem rs_to {ov2:Value} {p:Nat} {q:Int} (hq:q = (p:Int)) (h:Rw.Rows W w0.heap.size ([] ++ ⟨85,4,.slice (some ⟨g,0,none⟩) 1 1,1,[Value.string s,tv,fv,ov].set 3 ov2⟩ :: ([⟨49,5,tv,ns.length,ns.flatMap nc⟩,⟨3,1,fv,fr.length,fr.map (fun i:Nat => Value.int .i64 (i:Int))⟩] ++ ⟨3,1,ov2,to.length + 1,to.map (fun i:Nat => Value.int .i64 (i:Int)) ++ [.int .i64 q]⟩ :: ((RR g s tv fv ov ns fr to X).drop 4)))) (hS:Since w0 W) :
   RS w0 g s tv fv ov2 ns fr (to ++ [p]) X W:=by
 subst hq
 refine ⟨?_,hS⟩
 unfold RR
 rw [List.length_append,List.map_append]
 exact h
end
end Tlv
namespace Tlv
open Span Flt Rw
def pcsF (s:ByteArray):Nat -> Nat -> Except (Nat × Nat) (List ByteArray)
 | 0,p => .error (5,p)
 | f + 1,p => if s.size <= p then .ok [] else
   match Head.dec (s.extract p s.size).data.toList with
   | (h,k,x) => if x ≠ 0 then .error (x,p) else if s.size - p < k + h.n then .error (5,p) else
     match pcsF s f (p + (k + h.n)) with
     | .error y => .error y
     | .ok l => .ok (s.extract p (p + (k + h.n)) :: l)
end Tlv
namespace Tlv
open Span Flt Rw
theorem results_c {P:Program} {fn:Func} {p:Tmp} {ty:TypeId} (h:fn.results = #[.cell p ty]) (tmps:Array Value) (w:World) (g:Nat) (t:TypeId) (cs:Array Value) (fr:Nat × Nat) (d:TypeDesc)
   (hp:tmps.getD p undef = .pointer (some ⟨g,0,none⟩)) (hg:w.heap[g]? = some (.cells cs t fr))
   (hu:P.underlying ty = some d) (hd:(match d with | .struct _ | .array _ _ => true | _ => false) = true) (hi:(P.info? ty).map (·.size) = some cs.size) :
   (results fn tmps).run P w = .ok (.agg cs) w:=by
 have hp':tmps[p]?.getD undef = .pointer (some ⟨g,0,none⟩):=by simpa using hp
 simp [results,h,hp',asAddr,run_loadVar_row w g t ty cs fr d hg hu hd hi]
theorem faulty_mak (c p:Int):Mak 89 #[.int .i64 c,.int .i64 p] (.agg (F2 c p)):=by
 intro w
 have hr0:Hid (HR w w.heap.size (F2 0 0) 44 (w.alloc (.cells (F2 0 0) 44))):=lH ⟨heap_alloc_new w _⟩
 have HS:Hid (Since w (w.alloc (.cells (F2 0 0) 44))):=lH ((Since.refl w).alloc _)
 unfold F2 at hr0 HS
 go_enter Tryz.func89,Tryz.ntmps89
 go_wp2_with (refine wpList_store_row rfl 44 _ _ rfl w.heap.size (F2 c p) (by rfl) (by rfl) _ _ hr0.out.row (f2_info c p) rfl (f2_one c p) ?_)
 exact bodyPost_ret (v:=.agg (F2 c p)) (results_c Tryz.results89 _ _ _ _ _ _ _ rfl (setRow_heap _ _ _ _ _ _ hr0.out.row) Tryz.underlying44 rfl (f2_info c p)) rfl ⟨rfl,below_setRow HS.out (Nat.le_refl _) _⟩
end Tlv
namespace Tlv
open Span Flt Rw
theorem rows_setRow {w:World} {base:Nat} {t:TypeId} {g:Nat} {C:List Value} {rs:List Row} (h:Rw.Rows w base (lone t g C :: rs)) (D:Array Value):Rw.Rows (w.setRow g D) base rs:=by
 have ha:=List.pairwise_cons.1 h.apart
 refine ⟨fun r hr => ?_,ha.2⟩
 have h1:=h.own r (by simp [hr])
 refine ⟨h1.1, ?_⟩
 rcases h1.2 with h2 | ⟨g',cap,cur,hv,hb,hg,rest⟩
 · exact .inl h2
 · refine .inr ⟨g',cap,cur,hv,hb, ?_,rest⟩
   have hne:g' ≠ g:=fun e => ha.1 r hr g rfl (by rw [hv,e]; rfl)
   rw [setRow_other w g g' _ hne]
   exact hg
def ElErr (w0:World) (X:List Row) (c p:Int) (x:Ending) (W':World):Prop:=x = .returned (.tuple #[.int .i64 0,.agg (F2 c p)]) /\ Rw.Rows W' w0.heap.size X /\ Since w0 W'
section
variable (w0:World) (g:Nat) (s:ByteArray) (tv fv ov:Value) (ns:List (Nd × Value)) (fr to:List Nat) (X:List Row) (W:World) (p e deep c t n k x:Int) (b:Bool) (D:ByteArray)
set_option maxHeartbeats 4000000 in
theorem el_bad (hRS:RS w0 g s tv fv ov ns fr to X W) (i1:0 <= p) (i2:p <= e) (i3:e <= (s.size:Int)) (hD:s.extract p.toNat e.toNat = D) (hx:(x != 0) = true)
   (c1:Mak 117 #[.string D] (.tuple #[.agg #[.int .i64 c,.int .i64 t,.bool b,.int .i64 n],.int .i64 k,.int .i64 x])) :
   Calls Tryz.prog 90 #[.pointer (some ⟨g,0,none⟩),.int .i64 p,.int .i64 e,.int .i64 deep] W (ElErr w0 X x p):=by
 subst hD
 have HRS:=lH (hRS.push [.int .i64 0,.int .i64 0] 44)
 obtain ⟨z0,-,-,-,-⟩:=HRS.out.cells
 have hwb:=lH (Below.size hRS.since)
 clear hRS
 go_enter Tryz.func90,Tryz.ntmps90
 go_wp2_with fail
 refine c1.calls0 ?_
 intro w1 h1
 have HR1:=lH ((HRS.out.step h1).push [.int .i64 c,.int .i64 t,.bool b,.int .i64 n] 111)
 have hh:=lone_heap (HR1.out.others.own (lone 111 w1.heap.size [.int .i64 c,.int .i64 t,.bool b,.int .i64 n]) (by simp))
 have hp:=lH (hb_new w1 KT trivial #[.int .i64 c,.int .i64 t,.bool b,.int .i64 n] 111)
 obtain ⟨_,m0,m1,m2,m3⟩:=hb4 hp
 clear h1 hh z0
 go_wp2_with fail
 refine (faulty_mak x p).calls0 ?_
 intro w2 h2
 have HR2:=lH ((HR1.out.step h2).others)
 have hf:=lone_heap (HR2.out.own (lone 44 W.heap.size [.int .i64 0,.int .i64 0]) (by simp))
 have HS2:=lH ((HR1.out.step h2).since)
 clear h2
 go_wp2_with (refine wpList_store_row rfl 44 _ _ rfl W.heap.size (F2 x p) (by rfl) (by rfl) _ _ hf (f2_info x p) rfl (f2_one x p) ?_)
 exact bodyPost_ret (v:=.tuple #[.int .i64 0,.agg (F2 x p)]) (results_t_cell Tryz.results90 _ _ _ _ _ _ _ _ rfl rfl (setRow_heap _ _ _ _ _ _ hf) Tryz.underlying44 rfl (f2_info x p)) rfl ⟨rfl,rows_setRow (rows_drop HR2.out) _,below_setRow HS2.out hwb.out _⟩
set_option maxHeartbeats 4000000 in
theorem el_far (hRS:RS w0 g s tv fv ov ns fr to X W) (i1:0 <= p) (i2:p <= e) (i3:e <= (s.size:Int)) (hs:s.size <= 65535) (hD:s.extract p.toNat e.toNat = D) (i4:0 <= k) (i5:k <= 100) (i6:0 <= n) (i7:n <= 65535) (hx:decide (e < p + k + n) = true)
   (c1:Mak 117 #[.string D] (.tuple #[.agg #[.int .i64 c,.int .i64 t,.bool b,.int .i64 n],.int .i64 k,.int .i64 0])) :
   Calls Tryz.prog 90 #[.pointer (some ⟨g,0,none⟩),.int .i64 p,.int .i64 e,.int .i64 deep] W (ElErr w0 X 5 p):=by
 have hw1:IntKind.i64.wrap (p + k) = p + k:=IntWalk.i64_in _ (by omega)
 have hw2:IntKind.i64.wrap (p + k + n) = p + k + n:=IntWalk.i64_in _ (by omega)
 subst hD
 have HRS:=lH (hRS.push [.int .i64 0,.int .i64 0] 44)
 obtain ⟨z0,-,-,-,-⟩:=HRS.out.cells
 have hwb:=lH (Below.size hRS.since)
 clear hRS
 go_enter Tryz.func90,Tryz.ntmps90
 go_wp2_with fail
 refine c1.calls0 ?_
 intro w1 h1
 have HR1:=lH ((HRS.out.step h1).push [.int .i64 c,.int .i64 t,.bool b,.int .i64 n] 111)
 have hh:=lone_heap (HR1.out.others.own (lone 111 w1.heap.size [.int .i64 c,.int .i64 t,.bool b,.int .i64 n]) (by simp))
 have hp:=lH (hb_new w1 KT trivial #[.int .i64 c,.int .i64 t,.bool b,.int .i64 n] 111)
 obtain ⟨_,m0,m1,m2,m3⟩:=hb4 hp
 clear h1 hh z0
 go_wp2_with fail
 refine (faulty_mak 5 p).calls0 ?_
 intro w2 h2
 have HR2:=lH ((HR1.out.step h2).others)
 have hf:=lone_heap (HR2.out.own (lone 44 W.heap.size [.int .i64 0,.int .i64 0]) (by simp))
 have HS2:=lH ((HR1.out.step h2).since)
 clear h2
 go_wp2_with (refine wpList_store_row rfl 44 _ _ rfl W.heap.size (F2 5 p) (by rfl) (by rfl) _ _ hf (f2_info 5 p) rfl (f2_one 5 p) ?_)
 exact bodyPost_ret (v:=.tuple #[.int .i64 0,.agg (F2 5 p)]) (results_t_cell Tryz.results90 _ _ _ _ _ _ _ _ rfl rfl (setRow_heap _ _ _ _ _ _ hf) Tryz.underlying44 rfl (f2_info 5 p)) rfl ⟨rfl,rows_setRow (rows_drop HR2.out) _,below_setRow HS2.out hwb.out _⟩
set_option maxHeartbeats 4000000 in
theorem el_deep (hRS:RS w0 g s tv fv ov ns fr to X W) (i1:0 <= p) (i2:p <= e) (i3:e <= (s.size:Int)) (hs:s.size <= 65535) (hD:s.extract p.toNat e.toNat = D) (i4:0 <= k) (i5:k <= 100) (i6:0 <= n) (i7:n <= 65535) (hf:decide (e < p + k + n) = false) (hx:decide (16 < deep) = true)
   (c1:Mak 117 #[.string D] (.tuple #[.agg #[.int .i64 c,.int .i64 t,.bool b,.int .i64 n],.int .i64 k,.int .i64 0])) :
   Calls Tryz.prog 90 #[.pointer (some ⟨g,0,none⟩),.int .i64 p,.int .i64 e,.int .i64 deep] W (ElErr w0 X 6 p):=by
 have hw1:IntKind.i64.wrap (p + k) = p + k:=IntWalk.i64_in _ (by omega)
 have hw2:IntKind.i64.wrap (p + k + n) = p + k + n:=IntWalk.i64_in _ (by omega)
 subst hD
 have HRS:=lH (hRS.push [.int .i64 0,.int .i64 0] 44)
 obtain ⟨z0,-,-,-,-⟩:=HRS.out.cells
 have hwb:=lH (Below.size hRS.since)
 clear hRS
 go_enter Tryz.func90,Tryz.ntmps90
 go_wp2_with fail
 refine c1.calls0 ?_
 intro w1 h1
 have HR1:=lH ((HRS.out.step h1).push [.int .i64 c,.int .i64 t,.bool b,.int .i64 n] 111)
 have hh:=lone_heap (HR1.out.others.own (lone 111 w1.heap.size [.int .i64 c,.int .i64 t,.bool b,.int .i64 n]) (by simp))
 have hp:=lH (hb_new w1 KT trivial #[.int .i64 c,.int .i64 t,.bool b,.int .i64 n] 111)
 obtain ⟨_,m0,m1,m2,m3⟩:=hb4 hp
 clear h1 hh z0
 go_wp2_with fail
 refine (faulty_mak 6 p).calls0 ?_
 intro w2 h2
 have HR2:=lH ((HR1.out.step h2).others)
 have hf:=lone_heap (HR2.out.own (lone 44 W.heap.size [.int .i64 0,.int .i64 0]) (by simp))
 have HS2:=lH ((HR1.out.step h2).since)
 clear h2
 go_wp2_with (refine wpList_store_row rfl 44 _ _ rfl W.heap.size (F2 6 p) (by rfl) (by rfl) _ _ hf (f2_info 6 p) rfl (f2_one 6 p) ?_)
 exact bodyPost_ret (v:=.tuple #[.int .i64 0,.agg (F2 6 p)]) (results_t_cell Tryz.results90 _ _ _ _ _ _ _ _ rfl rfl (setRow_heap _ _ _ _ _ _ hf) Tryz.underlying44 rfl (f2_info 6 p)) rfl ⟨rfl,rows_setRow (rows_drop HR2.out) _,below_setRow HS2.out hwb.out _⟩
set_option maxHeartbeats 4000000 in
theorem el_many (tA:Option Addr) (tc:Nat) (htv:tv = .slice tA ns.length tc) (hRS:RS w0 g s tv fv ov ns fr to X W) (i1:0 <= p) (i2:p <= e) (i3:e <= (s.size:Int)) (hs:s.size <= 65535) (hD:s.extract p.toNat e.toNat = D) (i4:0 <= k) (i5:k <= 100) (i6:0 <= n) (i7:n <= 65535) (hf:decide (e < p + k + n) = false) (hd:decide (16 < deep) = false)
   (hx:decide ((1000:Int) <= (ns.length:Int)) = true) (c1:Mak 117 #[.string D] (.tuple #[.agg #[.int .i64 c,.int .i64 t,.bool b,.int .i64 n],.int .i64 k,.int .i64 0])) :
   Calls Tryz.prog 90 #[.pointer (some ⟨g,0,none⟩),.int .i64 p,.int .i64 e,.int .i64 deep] W (ElErr w0 X 4 p):=by
 have hw1:IntKind.i64.wrap (p + k) = p + k:=IntWalk.i64_in _ (by omega)
 have hw2:IntKind.i64.wrap (p + k + n) = p + k + n:=IntWalk.i64_in _ (by omega)
 subst hD htv
 have HRS:=lH (hRS.push [.int .i64 0,.int .i64 0] 44)
 obtain ⟨z0,-,-,-,-⟩:=HRS.out.cells
 have hwb:=lH (Below.size hRS.since)
 clear hRS
 go_enter Tryz.func90,Tryz.ntmps90
 go_wp2_with fail
 refine c1.calls0 ?_
 intro w1 h1
 have HR1:=lH ((HRS.out.step h1).push [.int .i64 c,.int .i64 t,.bool b,.int .i64 n] 111)
 have hh:=lone_heap (HR1.out.others.own (lone 111 w1.heap.size [.int .i64 c,.int .i64 t,.bool b,.int .i64 n]) (by simp))
 have hp:=lH (hb_new w1 KT trivial #[.int .i64 c,.int .i64 t,.bool b,.int .i64 n] 111)
 obtain ⟨_,m0,m1,m2,m3⟩:=hb4 hp
 clear h1 hh z0
 obtain ⟨z0,z1,-,-,-⟩:=HR1.out.cells
 have hx2:decide (1000 <= ns.length) = true:=by have:=of_decide_eq_true hx; exact decide_eq_true (by omega)
 go_wp2_with fail
 refine (faulty_mak 4 p).calls0 ?_
 intro w2 h2
 have HR2:=lH ((HR1.out.step h2).others)
 have hf:=lone_heap (HR2.out.own (lone 44 W.heap.size [.int .i64 0,.int .i64 0]) (by simp))
 have HS2:=lH ((HR1.out.step h2).since)
 clear h2
 go_wp2_with (refine wpList_store_row rfl 44 _ _ rfl W.heap.size (F2 4 p) (by rfl) (by rfl) _ _ hf (f2_info 4 p) rfl (f2_one 4 p) ?_)
 exact bodyPost_ret (v:=.tuple #[.int .i64 0,.agg (F2 4 p)]) (results_t_cell Tryz.results90 _ _ _ _ _ _ _ _ rfl rfl (setRow_heap _ _ _ _ _ _ hf) Tryz.underlying44 rfl (f2_info 4 p)) rfl ⟨rfl,rows_setRow (rows_drop HR2.out) _,below_setRow HS2.out hwb.out _⟩
set_option maxHeartbeats 4000000 in
theorem el_fc (tA:Option Addr) (tc:Nat) (htv:tv = .slice tA ns.length tc) (hRS:RS w0 g s tv fv ov ns fr to X W) (i1:0 <= p) (i2:p <= e) (i3:e <= (s.size:Int)) (hs:s.size <= 65535) (hD:s.extract p.toNat e.toNat = D) (i4:0 <= k) (i5:k <= 100) (i6:0 <= n) (i7:n <= 65535) (hf:decide (e < p + k + n) = false) (hd:decide (16 < deep) = false)
   (hx:decide ((1000:Int) <= (ns.length:Int)) = false) (t1:(t != 16) = true) (t2:(t != 17) = true) (c1:Mak 117 #[.string D] (.tuple #[.agg #[.int .i64 0,.int .i64 t,.bool true,.int .i64 n],.int .i64 k,.int .i64 0])) :
   Calls Tryz.prog 90 #[.pointer (some ⟨g,0,none⟩),.int .i64 p,.int .i64 e,.int .i64 deep] W (ElErr w0 X 5 p):=by
 have hw1:IntKind.i64.wrap (p + k) = p + k:=IntWalk.i64_in _ (by omega)
 have hw2:IntKind.i64.wrap (p + k + n) = p + k + n:=IntWalk.i64_in _ (by omega)
 subst hD htv
 have HRS:=lH (hRS.push [.int .i64 0,.int .i64 0] 44)
 obtain ⟨z0,-,-,-,-⟩:=HRS.out.cells
 have hwb:=lH (Below.size hRS.since)
 clear hRS
 go_enter Tryz.func90,Tryz.ntmps90
 go_wp2_with fail
 refine c1.calls0 ?_
 intro w1 h1
 have HR1:=lH ((HRS.out.step h1).push [.int .i64 0,.int .i64 t,.bool true,.int .i64 n] 111)
 have hh:=lone_heap (HR1.out.others.own (lone 111 w1.heap.size [.int .i64 0,.int .i64 t,.bool true,.int .i64 n]) (by simp))
 have hp:=lH (hb_new w1 KT trivial #[.int .i64 0,.int .i64 t,.bool true,.int .i64 n] 111)
 obtain ⟨_,m0,m1,m2,m3⟩:=hb4 hp
 clear h1 hh z0
 obtain ⟨z0,z1,-,-,-⟩:=HR1.out.cells
 have hx2:decide (1000 <= ns.length) = false:=by have:=of_decide_eq_false hx; exact decide_eq_false (by omega)
 go_wp2_with fail
 refine (faulty_mak 5 p).calls0 ?_
 intro w2 h2
 have HR2:=lH ((HR1.out.step h2).others)
 have hf:=lone_heap (HR2.out.own (lone 44 W.heap.size [.int .i64 0,.int .i64 0]) (by simp))
 have HS2:=lH ((HR1.out.step h2).since)
 clear h2
 go_wp2_with (refine wpList_store_row rfl 44 _ _ rfl W.heap.size (F2 5 p) (by rfl) (by rfl) _ _ hf (f2_info 5 p) rfl (f2_one 5 p) ?_)
 exact bodyPost_ret (v:=.tuple #[.int .i64 0,.agg (F2 5 p)]) (results_t_cell Tryz.results90 _ _ _ _ _ _ _ _ rfl rfl (setRow_heap _ _ _ _ _ _ hf) Tryz.underlying44 rfl (f2_info 5 p)) rfl ⟨rfl,rows_setRow (rows_drop HR2.out) _,below_setRow HS2.out hwb.out _⟩
end
end Tlv
namespace Tlv
open Span Flt Rw
section
variable (w0:World) (g:Nat) (s:ByteArray) (tv fv ov:Value) (ns:List (Nd × Value)) (fr to:List Nat) (X:List Row) (W:World) (p e deep c t n k x:Int) (b:Bool) (D:ByteArray)
set_option maxHeartbeats 1000000 in
theorem el_fp (tA:Option Addr) (tc:Nat) (htv:tv = .slice tA ns.length tc) (hRS:RS w0 g s tv fv ov ns fr to X W) (i1:0 <= p) (i2:p <= e) (i3:e <= (s.size:Int)) (hs:s.size <= 65535) (hD:s.extract p.toNat e.toNat = D) (i4:0 <= k) (i5:k <= 100) (i6:0 <= n) (i7:n <= 65535) (hf:decide (e < p + k + n) = false) (hd:decide (16 < deep) = false)
   (hx:decide ((1000:Int) <= (ns.length:Int)) = false) (Q:ByteArray) (hQ:s.extract (p + k).toNat (p + k + n).toNat = Q) (c1:Mak 117 #[.string D] (.tuple #[.agg #[.int .i64 0,.int .i64 t,.bool false,.int .i64 n],.int .i64 k,.int .i64 0]))
   (c2:Mak 118 #[.int .i64 t,.string Q] (.bool false)) :
   Calls Tryz.prog 90 #[.pointer (some ⟨g,0,none⟩),.int .i64 p,.int .i64 e,.int .i64 deep] W (ElErr w0 X 5 p):=by
 have hf':=of_decide_eq_false hf
 have hw1:IntKind.i64.wrap (p + k) = p + k:=IntWalk.i64_in _ (by omega)
 have hw2:IntKind.i64.wrap (p + k + n) = p + k + n:=IntWalk.i64_in _ (by omega)
 subst hD htv hQ
 have j1:p + k <= p + k + n:=by omega
 have j2:p + k + n <= (s.size:Int):=by omega
 have j3:0 <= p + k:=by omega
 have HRS:=lH (hRS.push [.int .i64 0,.int .i64 0] 44)
 obtain ⟨z0,-,-,-,-⟩:=HRS.out.cells
 have hwb:=lH (Below.size hRS.since)
 clear hRS
 go_enter Tryz.func90,Tryz.ntmps90
 go_wp2_with fail
 refine c1.calls0 ?_
 intro w1 h1
 have HR1:=lH ((HRS.out.step h1).push [.int .i64 0,.int .i64 t,.bool false,.int .i64 n] 111)
 have hh:=lone_heap (HR1.out.others.own (lone 111 w1.heap.size [.int .i64 0,.int .i64 t,.bool false,.int .i64 n]) (by simp))
 have hp:=lH (hb_new w1 KT trivial #[.int .i64 0,.int .i64 t,.bool false,.int .i64 n] 111)
 obtain ⟨_,m0,m1,m2,m3⟩:=hb4 hp
 clear h1 hh z0
 obtain ⟨z0,z1,-,-,-⟩:=HR1.out.cells
 have hx2:decide (1000 <= ns.length) = false:=by have:=of_decide_eq_false hx; exact decide_eq_false (by omega)
 go_wp2_with fail
 clear m0 m1 m2 m3 hp z0 z1
 obtain ⟨-,z0,m0,m1,m2,m3⟩:=hd_s HR1
 go_region_held3 (fun W' => Hid (RS w0 g s (.slice tA ns.length tc) fv ov ns fr to (lone 111 w1.heap.size [.int .i64 0,.int .i64 t,.bool false,.int .i64 n] :: lone 44 W.heap.size [.int .i64 0,.int .i64 0] :: X) W') /\ W'.cell? ⟨g,0,none⟩ = some (.string s) /\ W'.cell? ⟨w1.heap.size,0,none⟩ = some (.int .i64 0) /\ W'.cell? ⟨w1.heap.size,1,none⟩ = some (.int .i64 t) /\ W'.cell? ⟨w1.heap.size,2,none⟩ = some (.bool false) /\ W'.cell? ⟨w1.heap.size,3,none⟩ = some (.int .i64 n))
   (first | exact hd_s (by assumption) | exact hd_s (rsD (by assumption)))
   (first | (go_at_call 118; refine c2.calls0 ?_; intro w3 h3; have HR3:=rsS h3 (by first | assumption | exact rsD (by assumption)); clear h3))
 all_goals
   replace HR1:=HR3
   go_wp2_with fail
   refine (faulty_mak 5 p).calls0 ?_
   intro w2 h2
   have HR2:=lH ((HR1.out.step h2).others)
   have hf:=lone_heap (HR2.out.own (lone 44 W.heap.size [.int .i64 0,.int .i64 0]) (by simp))
   have HS2:=lH ((HR1.out.step h2).since)
   clear h2
   go_wp2_with (refine wpList_store_row rfl 44 _ _ rfl W.heap.size (F2 5 p) (by rfl) (by rfl) _ _ hf (f2_info 5 p) rfl (f2_one 5 p) ?_)
   exact bodyPost_ret (v:=.tuple #[.int .i64 0,.agg (F2 5 p)]) (results_t_cell Tryz.results90 _ _ _ _ _ _ _ _ rfl rfl (setRow_heap _ _ _ _ _ _ hf) Tryz.underlying44 rfl (f2_info 5 p)) rfl ⟨rfl,rows_setRow (rows_drop HR2.out) _,below_setRow HS2.out hwb.out _⟩
end
end Tlv
namespace Tlv
open Span Flt Rw
theorem belowQ (w:World) (q:Nat):Below w.heap.size w (w.drewN q):=⟨rfl,rfl,rfl,Nat.le_refl _,fun _ _ => rfl⟩
end Tlv
namespace Tlv
open Span Flt Rw
def ElOk (w0:World) (g:Nat) (s:ByteArray) (N:List Nd) (fr to:List Nat) (X:List Row) (q:Nat) (x:Ending) (W':World):Prop :=
 ∃ tv fv ov ns,x = .returned (.tuple #[.int .i64 (q:Int),.agg (F2 0 0)]) /\ RS w0 g s tv fv ov ns fr to X W' /\ ns.map Prod.fst = N /\ KL ns
theorem kl_more {ns:List (Nd × Value)} (h:KL ns) (x:Nd × Value) (hx:x.1.k = []):KL (ns ++ [x]):=by
 intro i y hy
 rw [List.length_append,List.length_singleton]
 by_cases hi:i < ns.length
 · rw [List.getElem?_append_left hi] at hy
   exact Nat.le_succ_of_le (h i y hy)
 · rw [List.getElem?_append_right (by omega)] at hy
   cases hq:i - ns.length with
   | zero => rw [hq] at hy; cases hy; rw [hx]; exact Nat.zero_le _
   | succ j => rw [hq] at hy; cases hy
section
variable (w0:World) (g:Nat) (s:ByteArray) (fv ov:Value) (ns:List (Nd × Value)) (fr to:List Nat) (X:List Row) (W:World) (p e k n:Nat) (deep c t:Int)
set_option maxHeartbeats 4000000 in
theorem el_prim_c (tA:Option Addr) (tc:Nat) (hRS:RS w0 g s (.slice tA ns.length tc) fv ov ns fr to X W) (hKL:KL ns) (hn:ns.length <= 999) (hfr:fr.length <= 1000) (hto:to.length <= 1000) (i2:p <= e) (i3:e <= s.size) (hs:s.size <= 65535) (D:ByteArray) (hD:s.extract p e = D) (i5:k <= 100) (hf:p + k + n <= e) (hd:deep <= 16)
   (Q:ByteArray) (hQ:s.extract (p + k) (p + k + n) = Q) (hc0:(c == 0) = false) (c1:Mak 117 #[.string D] (.tuple #[.agg #[.int .i64 c,.int .i64 t,.bool false,.int .i64 (n:Int)],.int .i64 (k:Int),.int .i64 0])) :
   Calls Tryz.prog 90 #[.pointer (some ⟨g,0,none⟩),.int .i64 (p:Int),.int .i64 (e:Int),.int .i64 deep] W (ElOk w0 g s (ns.map Prod.fst ++ [⟨c,t,false,Q,[]⟩]) (fr ++ [p]) (to ++ [p + k + n]) X (p + k + n)):=by
 have hw1:IntKind.i64.wrap ((p:Int) + (k:Int)) = (p:Int) + (k:Int):=IntWalk.i64_in _ (by omega)
 have hw2:IntKind.i64.wrap ((p:Int) + (k:Int) + (n:Int)) = (p:Int) + (k:Int) + (n:Int):=IntWalk.i64_in _ (by omega)
 have t1:decide ((e:Int) < (p:Int) + (k:Int) + (n:Int)) = false:=decide_eq_false (by omega)
 have t2:decide ((16:Int) < deep) = false:=decide_eq_false (by omega)
 have t3:decide ((1000:Int) <= (ns.length:Int)) = false:=decide_eq_false (by omega)
 have t4:decide (1000 <= ns.length) = false:=decide_eq_false (by omega)
 have j0:(p:Int) <= (e:Int):=by omega
 have j1:(e:Int) <= (s.size:Int):=by omega
 have j2:(p:Int) + (k:Int) <= (p:Int) + (k:Int) + (n:Int):=by omega
 have j3:(p:Int) + (k:Int) + (n:Int) <= (s.size:Int):=by omega
 have j4:(0:Int) <= (p:Int) + (k:Int):=by omega
 have HB3:Hid (ns.length + 1 <= maxLen):=lH (by unfold maxLen; omega)
 have HB4:Hid ((ns.length + 1) * 64 <= 140737488355328):=lH (by omega)
 have HB5:Hid (fr.length + 1 <= maxLen):=lH (by unfold maxLen; omega)
 have HB6:Hid ((fr.length + 1) * 8 <= 140737488355328):=lH (by omega)
 have HB7:Hid (to.length + 1 <= maxLen):=lH (by unfold maxLen; omega)
 have HB8:Hid ((to.length + 1) * 8 <= 140737488355328):=lH (by omega)
 have HK:=lH hKL
 have HQe:=lH hQ
 subst hD hQ
 clear i2 i3 hs hf hd hKL hfr hto
 have HRS:=lH (hRS.push [.int .i64 0,.int .i64 0] 44)
 obtain ⟨z0,-,-,-,-⟩:=HRS.out.cells
 have hwb:=lH (Below.size hRS.since)
 clear hRS
 go_enter Tryz.func90,Tryz.ntmps90
 go_wp2_with fail
 refine c1.calls0 ?_
 intro w1 h1
 have HR1:=lH ((HRS.out.step h1).push [.int .i64 c,.int .i64 t,.bool false,.int .i64 (n:Int)] 111)
 clear h1 z0
 obtain ⟨-,z0,m0,m1,m2,m3⟩:=hd_s HR1
 have z1:=HR1.out.cells.2.1
 go_wp2_with fail
 go_quiet (fail)
 have HR3:=rsS (belowQ _ nq) HR1
 generalize (w1.alloc (.cells #[.int .i64 c,.int .i64 t,.bool false,.int .i64 (n:Int)] 111)).drewN nq = W4 at HR3 ⊢
 clear z0 z1 m0 m1 m2 m3 HR1 HRS
 obtain ⟨-,z0,m0,m1,m2,m3⟩:=hd_s HR3
 have z1:=HR3.out.cells.2.1
 have hl1:=HR3.out.lt
 have hl2:=HR3.out.ltX
 have HR4:=lH (HR3.out.push [.int .i64 c,.int .i64 t,.bool false,.string (s.extract (p + k) (p + k + n)),.slice none 0 0] 49)
 go_wp2_with fail
 have hlg:=hl1
 clear z0 z1 m0 m1 m2 m3 HR3 hl1 hl2
 obtain ⟨-,z1,n0,n1,n2,n3,n4⟩:=en_s HR4
 refine RegW.start (fun W' => W'.cell? ⟨g,1,none⟩ = some (.slice tA ns.length tc) /\ W'.cell? ⟨W4.heap.size,0,none⟩ = some (.int .i64 c) /\ W'.cell? ⟨W4.heap.size,1,none⟩ = some (.int .i64 t) /\ W'.cell? ⟨W4.heap.size,2,none⟩ = some (.bool false) /\ W'.cell? ⟨W4.heap.size,3,none⟩ = some (.string (s.extract (p + k) (p + k + n))) /\ W'.cell? ⟨W4.heap.size,4,none⟩ = some (.slice none 0 0)) 10 (by kernel_rfl) ((en_s (rsD HR4)).2) (fun hHeld => ?_)
 refine RegW.take (i:=0) (v:=?_) rfl (by kernel_rfl) (by kernel_rfl) (by kernel_rfl) (by kernel_rfl) (fun _ _ _ h => h) (Or.inl ⟨by rfl, ?_⟩) (by assumption) ?_
 rotate_left
 · intro w hSw
   go_split_ands
   go_simp
   try with_reducible rfl
 try simp only [Act.put,List.setIfInBounds_toArray]
 refine RegW.take (i:=1) (v:=?_) rfl (by kernel_rfl) (by kernel_rfl) (by kernel_rfl) (by kernel_rfl) (fun _ _ _ h => h) (Or.inl ⟨by rfl, ?_⟩) (by assumption) ?_
 rotate_left
 · intro w hSw
   go_split_ands
   go_simp
   try with_reducible rfl
 try simp only [Act.put]
 refine RegW.take (i:=2) (v:=?_) rfl (by kernel_rfl) (by kernel_rfl) (by kernel_rfl) (by kernel_rfl) (fun _ _ _ h => h) (Or.inl ⟨by rfl, ?_⟩) (by assumption) ?_
 rotate_left
 · intro w hSw
   go_split_ands
   go_simp
   try with_reducible rfl
 try simp only [Act.put]
 refine RegW.take (i:=3) (v:=?_) rfl (by kernel_rfl) (by kernel_rfl) (by kernel_rfl) (by kernel_rfl) (fun _ _ _ h => h) (Or.inl ⟨by rfl, ?_⟩) (by assumption) ?_
 rotate_left
 · intro w hSw
   go_split_ands
   go_simp
   try with_reducible rfl
 try simp only [Act.put]
 refine RegW.take (i:=4) (v:=?_) rfl (by kernel_rfl) (by kernel_rfl) (by kernel_rfl) (by kernel_rfl) (fun _ _ _ h => h) (Or.inl ⟨by rfl, ?_⟩) (by assumption) ?_
 rotate_left
 · intro w hSw
   go_split_ands
   go_simp
   try with_reducible rfl
 try simp only [Act.put]
 refine RegW.take (i:=5) (v:=?_) rfl (by kernel_rfl) (by kernel_rfl) (by kernel_rfl) (by kernel_rfl) (fun _ _ _ h => h) (Or.inl ⟨by rfl, ?_⟩) (by assumption) ?_
 rotate_left
 · intro w hSw
   go_split_ands
   go_simp
   try with_reducible rfl
 try simp only [Act.put]
 refine RegW.only (i:=6) rfl (by kernel_rfl) (fun K hK => ?_)
 go_simp
 refine hK.out _ _ ((en_s (rsA _ (rsD HR4))).2) (fun hHeld => ?_)
 clear hK K
 try simp only [Act.put,List.setIfInBounds_toArray,List.set_cons_zero,List.set_cons_succ]
 refine RegW.only (i:=7) rfl (by kernel_rfl) (fun K hK => ?_)
 refine step_rows elemN rfl _ _ (by rfl) w0 _ [_] _ (.slice tA ns.length tc) ns.length (ns.flatMap nc) (by rfl) (rsA _ (rsD HR4)).out.rows (rsA _ (rsD HR4)).out.since (W4.heap.size + 1) [.int .i64 c,.int .i64 t,.bool false,.string (s.extract (p + k) (p + k + n)),.slice none 0 0] 1 1 (by rfl) (fun j u hj => alloc_cell_at _ _ _ (W4.heap.size + 1) (by first | rfl | simp) j u hj) rfl (by decide) (by intro u hu; simp at hu; rcases hu with rfl | rfl | rfl | rfl | rfl <;> rfl) HB3.out HB4.out ?_
 intro tv2 w6 HQ HT
 obtain ⟨ta2,tc2,rfl⟩:∃ A c,tv2 = .slice A (ns.length + 1) c:=own_any HQ.get
 have k1:=(lone_cell (HQ.own (lone 85 g [.string s,.slice tA ns.length tc,fv,ov]) (by simp)) 1 _ rfl)
 have k2:=k1.2
 have k3:=HQ.own (lone 49 W4.heap.size [.int .i64 c,.int .i64 t,.bool false,.string (s.extract (p + k) (p + k + n)),.slice none 0 0]) (by first | simp | (unfold RR; simp))
 have hS6:w6.cell? ⟨g,1,none⟩ = some (.slice tA ns.length tc) /\ w6.cell? ⟨W4.heap.size,0,none⟩ = some (.int .i64 c) /\ w6.cell? ⟨W4.heap.size,1,none⟩ = some (.int .i64 t) /\ w6.cell? ⟨W4.heap.size,2,none⟩ = some (.bool false) /\ w6.cell? ⟨W4.heap.size,3,none⟩ = some (.string (s.extract (p + k) (p + k + n))) /\ w6.cell? ⟨W4.heap.size,4,none⟩ = some (.slice none 0 0):=⟨k1.1,(lone_cell k3 0 _ rfl).1,(lone_cell k3 1 _ rfl).1,(lone_cell k3 2 _ rfl).1,(lone_cell k3 3 _ rfl).1,(lone_cell k3 4 _ rfl).1⟩
 replace k1:=k1.1
 have HQ6:=lH HQ
 have HT6:=lH HT
 clear HQ HT k3
 refine hK.out _ _ ?_ (fun hHeld => ?_)
 · exact hS6
 clear hK K
 try simp only [Act.put,List.setIfInBounds_toArray]
 refine RegW.only (i:=8) rfl (by kernel_rfl) (fun K hK => ?_)
 go_simp
 refine hK.out _ _ (hHeld) (fun hHeld => ?_)
 clear hK K
 try simp only [Act.put,List.setIfInBounds_toArray,List.set_cons_zero,List.set_cons_succ]
 refine RegW.only (i:=9) rfl (by kernel_rfl) (fun K hK => ?_)
 go_simp
 refine hK.out _ _ (hHeld) (fun hHeld => ?_)
 clear hK K
 try simp only [Act.put,List.setIfInBounds_toArray,List.set_cons_zero,List.set_cons_succ]
 have hrun:(storeVar 32 ⟨g,1,none⟩ (.slice ta2 (ns.length + 1) tc2)).run Tryz.prog w6 = .ok () (w6.setCell ⟨g,1,none⟩ (.slice ta2 (ns.length + 1) tc2)):=by simp [storeVar,go_sem,k1,k2]
 refine RegW.last rfl (by kernel_rfl) (by kernel_rfl) (RegW.put1 rfl _ _ _ rfl _ _ (by rfl) (by rfl) hrun ?_)
 clear hrun
 all_goals
   have HR6:=lH (RS.pop (rs_node HQ6.out HT6.out))
   generalize w6.setCell ⟨g,1,none⟩ (.slice ta2 (ns.length + 1) tc2) = W6 at HR6 ⊢
   have HR6f:Hid (Rw.Rows W6 w0.heap.size ([_,_] ++ ⟨3,1,fv,fr.length,fr.map (fun i:Nat => Value.int .i64 (i:Int))⟩ :: _)):=lH (by have h:=HR6.out.rows; rw [rr_from] at h; exact h)
   have k7:=HR6.out.cells.2.2.1
   clear z1 n0 n1 n2 n3 n4 k1 k2 hS6 hHeld HQ6 HT6 HR4
   go_wp2_with (first
     | (at_builtin; refine app_rows elemT rfl _ _ (by rfl) w0 W6 _ rfl [_,_] _ fv fr.length (fr.map (fun i:Nat => Value.int .i64 (i:Int))) (by rfl) HR6f.out HR6.out.since #[.int .i64 (p:Int)] 1 1 (by rfl) rfl (by intro v hv; simp at hv; subst hv; rfl) HB5.out HB6.out ?_; intro fv2 w7 HQ HT hk; obtain ⟨xa,xc,rfl⟩:∃ A c,fv2 = .slice A (fr.length + 1) c:=own_any HQ.get; have HQ7:=lH HQ; have HT7:=lH HT; clear HQ HT hk k7)
     | (refine at_store (ty:=38) rfl ?_; refine store_rows rfl 38 _ _ rfl intl_one w0 w7 [] _ 85 4 g 1 1 [.string s,.slice ta2 (ns.length + 1) tc2,fv,ov] HQ7.out HT7.out 2 (by decide) (by rfl) (.slice xa (fr.length + 1) xc) (by rfl) rfl ?_; intro w8 HQ HT hk; have HR8:=lH (rs_from (p:=p) HQ HT); have HR8t:Hid (Rw.Rows w8 w0.heap.size ([_,_,_] ++ ⟨3,1,ov,to.length,to.map (fun i:Nat => Value.int .i64 (i:Int))⟩ :: _)):=lH (by have h:=HR8.out.rows; rw [rr_to] at h; exact h); have k8:=HR8.out.cells.2.2.2.1; clear HQ HT hk)
     | (at_builtin; refine app_rows elemT rfl _ _ (by rfl) w0 w8 _ rfl [_,_,_] _ ov to.length (to.map (fun i:Nat => Value.int .i64 (i:Int))) (by rfl) HR8t.out HR8.out.since #[.int .i64 ((p:Int) + (k:Int) + (n:Int))] 1 1 (by rfl) rfl (by intro v hv; simp at hv; subst hv; rfl) HB7.out HB8.out ?_; intro ov2 w9 HQ HT hk; obtain ⟨ya,yc,rfl⟩:∃ A c,ov2 = .slice A (to.length + 1) c:=own_any HQ.get; have HQ9:=lH HQ; have HT9:=lH HT; clear HQ HT hk k8)
     | (refine at_store (ty:=38) rfl ?_; refine store_rows rfl 38 _ _ rfl intl_one w0 w9 [] _ 85 4 g 1 1 [.string s,.slice ta2 (ns.length + 1) tc2,.slice xa (fr.length + 1) xc,ov] HQ9.out HT9.out 3 (by decide) (by rfl) (.slice ya (to.length + 1) yc) (by rfl) rfl ?_; intro w10 HQ HT hk; have HR10:=lH (rs_to (p:=p + k + n) (q:=(p:Int) + (k:Int) + (n:Int)) (by omega) HQ HT); have HHD:=hd_s HR10; have m2:=HHD.2.2.2.2.1; have hf:=lone_heap (HR10.out.others.own (lone 44 W.heap.size [.int .i64 0,.int .i64 0]) (by simp)); clear HQ HT hk HHD)
     | (refine wpList_store_row rfl 44 _ _ rfl W.heap.size (F2 0 0) (by rfl) (by rfl) _ _ hf (f2_info 0 0) rfl (f2_one 0 0) ?_))
   have hself:w10.setRow W.heap.size (F2 0 0) = w10:=setRow_self _ _ _ _ _ hf
   rw [hself]
   exact bodyPost_ret (v:=.tuple #[.int .i64 ((p:Int) + (k:Int) + (n:Int)),.agg (F2 0 0)]) (results_t_cell Tryz.results90 _ _ _ _ _ _ _ _ rfl rfl hf Tryz.underlying44 rfl (f2_info 0 0)) rfl ⟨_,_,_,_,rfl,HR10.out.pop.pop,by rw [List.map_append]; rfl,kl_more HK.out _ rfl⟩
end
end Tlv
namespace Tlv
open Span Flt Rw
section
variable (w0:World) (g:Nat) (s:ByteArray) (fv ov:Value) (ns:List (Nd × Value)) (fr to:List Nat) (X:List Row) (W:World) (p e k n:Nat) (deep t:Int)
set_option maxHeartbeats 4000000 in
theorem el_prim_0 (tA:Option Addr) (tc:Nat) (hRS:RS w0 g s (.slice tA ns.length tc) fv ov ns fr to X W) (hKL:KL ns) (hn:ns.length <= 999) (hfr:fr.length <= 1000) (hto:to.length <= 1000) (i2:p <= e) (i3:e <= s.size) (hs:s.size <= 65535) (D:ByteArray) (hD:s.extract p e = D) (i5:k <= 100) (hf:p + k + n <= e) (hd:deep <= 16)
   (Q:ByteArray) (hQ:s.extract (p + k) (p + k + n) = Q) (c1:Mak 117 #[.string D] (.tuple #[.agg #[.int .i64 0,.int .i64 t,.bool false,.int .i64 (n:Int)],.int .i64 (k:Int),.int .i64 0])) (c2:Mak 118 #[.int .i64 t,.string Q] (.bool true)) :
   Calls Tryz.prog 90 #[.pointer (some ⟨g,0,none⟩),.int .i64 (p:Int),.int .i64 (e:Int),.int .i64 deep] W (ElOk w0 g s (ns.map Prod.fst ++ [⟨0,t,false,Q,[]⟩]) (fr ++ [p]) (to ++ [p + k + n]) X (p + k + n)):=by
 have hw1:IntKind.i64.wrap ((p:Int) + (k:Int)) = (p:Int) + (k:Int):=IntWalk.i64_in _ (by omega)
 have hw2:IntKind.i64.wrap ((p:Int) + (k:Int) + (n:Int)) = (p:Int) + (k:Int) + (n:Int):=IntWalk.i64_in _ (by omega)
 have t1:decide ((e:Int) < (p:Int) + (k:Int) + (n:Int)) = false:=decide_eq_false (by omega)
 have t2:decide ((16:Int) < deep) = false:=decide_eq_false (by omega)
 have t3:decide ((1000:Int) <= (ns.length:Int)) = false:=decide_eq_false (by omega)
 have t4:decide (1000 <= ns.length) = false:=decide_eq_false (by omega)
 have j0:(p:Int) <= (e:Int):=by omega
 have j1:(e:Int) <= (s.size:Int):=by omega
 have j2:(p:Int) + (k:Int) <= (p:Int) + (k:Int) + (n:Int):=by omega
 have j3:(p:Int) + (k:Int) + (n:Int) <= (s.size:Int):=by omega
 have j4:(0:Int) <= (p:Int) + (k:Int):=by omega
 have HB3:Hid (ns.length + 1 <= maxLen):=lH (by unfold maxLen; omega)
 have HB4:Hid ((ns.length + 1) * 64 <= 140737488355328):=lH (by omega)
 have HB5:Hid (fr.length + 1 <= maxLen):=lH (by unfold maxLen; omega)
 have HB6:Hid ((fr.length + 1) * 8 <= 140737488355328):=lH (by omega)
 have HB7:Hid (to.length + 1 <= maxLen):=lH (by unfold maxLen; omega)
 have HB8:Hid ((to.length + 1) * 8 <= 140737488355328):=lH (by omega)
 have HK:=lH hKL
 have HQe:=lH hQ
 subst hD hQ
 clear i2 i3 hs hf hd hKL hfr hto
 have HRS:=lH (hRS.push [.int .i64 0,.int .i64 0] 44)
 obtain ⟨z0,-,-,-,-⟩:=HRS.out.cells
 have hwb:=lH (Below.size hRS.since)
 clear hRS
 go_enter Tryz.func90,Tryz.ntmps90
 go_wp2_with fail
 refine c1.calls0 ?_
 intro w1 h1
 have HR1:=lH ((HRS.out.step h1).push [.int .i64 0,.int .i64 t,.bool false,.int .i64 (n:Int)] 111)
 clear h1 z0
 obtain ⟨-,z0,m0,m1,m2,m3⟩:=hd_s HR1
 have z1:=HR1.out.cells.2.1
 go_wp2_with fail
 go_region_held3 (fun W' => Hid (RS w0 g s (.slice tA ns.length tc) fv ov ns fr to (lone 111 w1.heap.size [.int .i64 0,.int .i64 t,.bool false,.int .i64 (n:Int)] :: lone 44 W.heap.size [.int .i64 0,.int .i64 0] :: X) W') /\ W'.cell? ⟨g,0,none⟩ = some (.string s) /\ W'.cell? ⟨w1.heap.size,0,none⟩ = some (.int .i64 0) /\ W'.cell? ⟨w1.heap.size,1,none⟩ = some (.int .i64 t) /\ W'.cell? ⟨w1.heap.size,2,none⟩ = some (.bool false) /\ W'.cell? ⟨w1.heap.size,3,none⟩ = some (.int .i64 (n:Int)))
   (first | exact hd_s (by assumption) | exact hd_s (rsD (by assumption)))
   (first | (go_at_call 118; refine c2.calls0 ?_; intro W4 h3; have HR3:=rsS h3 (by first | assumption | exact rsD (by assumption)); clear h3))
 clear z0 z1 m0 m1 m2 m3 HR1 HRS
 obtain ⟨-,z0,m0,m1,m2,m3⟩:=hd_s HR3
 have z1:=HR3.out.cells.2.1
 have hl1:=HR3.out.lt
 have hl2:=HR3.out.ltX
 have HR4:=lH (HR3.out.push [.int .i64 0,.int .i64 t,.bool false,.string (s.extract (p + k) (p + k + n)),.slice none 0 0] 49)
 go_wp2_with fail
 have hlg:=hl1
 clear z0 z1 m0 m1 m2 m3 HR3 hl1 hl2
 obtain ⟨-,z1,n0,n1,n2,n3,n4⟩:=en_s HR4
 refine RegW.start (fun W' => W'.cell? ⟨g,1,none⟩ = some (.slice tA ns.length tc) /\ W'.cell? ⟨W4.heap.size,0,none⟩ = some (.int .i64 0) /\ W'.cell? ⟨W4.heap.size,1,none⟩ = some (.int .i64 t) /\ W'.cell? ⟨W4.heap.size,2,none⟩ = some (.bool false) /\ W'.cell? ⟨W4.heap.size,3,none⟩ = some (.string (s.extract (p + k) (p + k + n))) /\ W'.cell? ⟨W4.heap.size,4,none⟩ = some (.slice none 0 0)) 10 (by kernel_rfl) ((en_s (rsD HR4)).2) (fun hHeld => ?_)
 refine RegW.take (i:=0) (v:=?_) rfl (by kernel_rfl) (by kernel_rfl) (by kernel_rfl) (by kernel_rfl) (fun _ _ _ h => h) (Or.inl ⟨by rfl, ?_⟩) (by assumption) ?_
 rotate_left
 · intro w hSw
   go_split_ands
   go_simp
   try with_reducible rfl
 try simp only [Act.put,List.setIfInBounds_toArray]
 refine RegW.take (i:=1) (v:=?_) rfl (by kernel_rfl) (by kernel_rfl) (by kernel_rfl) (by kernel_rfl) (fun _ _ _ h => h) (Or.inl ⟨by rfl, ?_⟩) (by assumption) ?_
 rotate_left
 · intro w hSw
   go_split_ands
   go_simp
   try with_reducible rfl
 try simp only [Act.put]
 refine RegW.take (i:=2) (v:=?_) rfl (by kernel_rfl) (by kernel_rfl) (by kernel_rfl) (by kernel_rfl) (fun _ _ _ h => h) (Or.inl ⟨by rfl, ?_⟩) (by assumption) ?_
 rotate_left
 · intro w hSw
   go_split_ands
   go_simp
   try with_reducible rfl
 try simp only [Act.put]
 refine RegW.take (i:=3) (v:=?_) rfl (by kernel_rfl) (by kernel_rfl) (by kernel_rfl) (by kernel_rfl) (fun _ _ _ h => h) (Or.inl ⟨by rfl, ?_⟩) (by assumption) ?_
 rotate_left
 · intro w hSw
   go_split_ands
   go_simp
   try with_reducible rfl
 try simp only [Act.put]
 refine RegW.take (i:=4) (v:=?_) rfl (by kernel_rfl) (by kernel_rfl) (by kernel_rfl) (by kernel_rfl) (fun _ _ _ h => h) (Or.inl ⟨by rfl, ?_⟩) (by assumption) ?_
 rotate_left
 · intro w hSw
   go_split_ands
   go_simp
   try with_reducible rfl
 try simp only [Act.put]
 refine RegW.take (i:=5) (v:=?_) rfl (by kernel_rfl) (by kernel_rfl) (by kernel_rfl) (by kernel_rfl) (fun _ _ _ h => h) (Or.inl ⟨by rfl, ?_⟩) (by assumption) ?_
 rotate_left
 · intro w hSw
   go_split_ands
   go_simp
   try with_reducible rfl
 try simp only [Act.put]
 refine RegW.only (i:=6) rfl (by kernel_rfl) (fun K hK => ?_)
 go_simp
 refine hK.out _ _ ((en_s (rsA _ (rsD HR4))).2) (fun hHeld => ?_)
 clear hK K
 try simp only [Act.put,List.setIfInBounds_toArray,List.set_cons_zero,List.set_cons_succ]
 refine RegW.only (i:=7) rfl (by kernel_rfl) (fun K hK => ?_)
 refine step_rows elemN rfl _ _ (by rfl) w0 _ [_] _ (.slice tA ns.length tc) ns.length (ns.flatMap nc) (by rfl) (rsA _ (rsD HR4)).out.rows (rsA _ (rsD HR4)).out.since (W4.heap.size + 1) [.int .i64 0,.int .i64 t,.bool false,.string (s.extract (p + k) (p + k + n)),.slice none 0 0] 1 1 (by rfl) (fun j u hj => alloc_cell_at _ _ _ (W4.heap.size + 1) (by first | rfl | simp) j u hj) rfl (by decide) (by intro u hu; simp at hu; rcases hu with rfl | rfl | rfl | rfl | rfl <;> rfl) HB3.out HB4.out ?_
 intro tv2 w6 HQ HT
 obtain ⟨ta2,tc2,rfl⟩:∃ A c,tv2 = .slice A (ns.length + 1) c:=own_any HQ.get
 have k1:=(lone_cell (HQ.own (lone 85 g [.string s,.slice tA ns.length tc,fv,ov]) (by simp)) 1 _ rfl)
 have k2:=k1.2
 have k3:=HQ.own (lone 49 W4.heap.size [.int .i64 0,.int .i64 t,.bool false,.string (s.extract (p + k) (p + k + n)),.slice none 0 0]) (by first | simp | (unfold RR; simp))
 have hS6:w6.cell? ⟨g,1,none⟩ = some (.slice tA ns.length tc) /\ w6.cell? ⟨W4.heap.size,0,none⟩ = some (.int .i64 0) /\ w6.cell? ⟨W4.heap.size,1,none⟩ = some (.int .i64 t) /\ w6.cell? ⟨W4.heap.size,2,none⟩ = some (.bool false) /\ w6.cell? ⟨W4.heap.size,3,none⟩ = some (.string (s.extract (p + k) (p + k + n))) /\ w6.cell? ⟨W4.heap.size,4,none⟩ = some (.slice none 0 0):=⟨k1.1,(lone_cell k3 0 _ rfl).1,(lone_cell k3 1 _ rfl).1,(lone_cell k3 2 _ rfl).1,(lone_cell k3 3 _ rfl).1,(lone_cell k3 4 _ rfl).1⟩
 replace k1:=k1.1
 have HQ6:=lH HQ
 have HT6:=lH HT
 clear HQ HT k3
 refine hK.out _ _ ?_ (fun hHeld => ?_)
 · exact hS6
 clear hK K
 try simp only [Act.put,List.setIfInBounds_toArray]
 refine RegW.only (i:=8) rfl (by kernel_rfl) (fun K hK => ?_)
 go_simp
 refine hK.out _ _ (hHeld) (fun hHeld => ?_)
 clear hK K
 try simp only [Act.put,List.setIfInBounds_toArray,List.set_cons_zero,List.set_cons_succ]
 refine RegW.only (i:=9) rfl (by kernel_rfl) (fun K hK => ?_)
 go_simp
 refine hK.out _ _ (hHeld) (fun hHeld => ?_)
 clear hK K
 try simp only [Act.put,List.setIfInBounds_toArray,List.set_cons_zero,List.set_cons_succ]
 have hrun:(storeVar 32 ⟨g,1,none⟩ (.slice ta2 (ns.length + 1) tc2)).run Tryz.prog w6 = .ok () (w6.setCell ⟨g,1,none⟩ (.slice ta2 (ns.length + 1) tc2)):=by simp [storeVar,go_sem,k1,k2]
 refine RegW.last rfl (by kernel_rfl) (by kernel_rfl) (RegW.put1 rfl _ _ _ rfl _ _ (by rfl) (by rfl) hrun ?_)
 clear hrun
 all_goals
   have HR6:=lH (RS.pop (rs_node HQ6.out HT6.out))
   generalize w6.setCell ⟨g,1,none⟩ (.slice ta2 (ns.length + 1) tc2) = W6 at HR6 ⊢
   have HR6f:Hid (Rw.Rows W6 w0.heap.size ([_,_] ++ ⟨3,1,fv,fr.length,fr.map (fun i:Nat => Value.int .i64 (i:Int))⟩ :: _)):=lH (by have h:=HR6.out.rows; rw [rr_from] at h; exact h)
   have k7:=HR6.out.cells.2.2.1
   clear z1 n0 n1 n2 n3 n4 k1 k2 hS6 hHeld HQ6 HT6 HR4
   go_wp2_with (first
     | (at_builtin; refine app_rows elemT rfl _ _ (by rfl) w0 W6 _ rfl [_,_] _ fv fr.length (fr.map (fun i:Nat => Value.int .i64 (i:Int))) (by rfl) HR6f.out HR6.out.since #[.int .i64 (p:Int)] 1 1 (by rfl) rfl (by intro v hv; simp at hv; subst hv; rfl) HB5.out HB6.out ?_; intro fv2 w7 HQ HT hk; obtain ⟨xa,xc,rfl⟩:∃ A c,fv2 = .slice A (fr.length + 1) c:=own_any HQ.get; have HQ7:=lH HQ; have HT7:=lH HT; clear HQ HT hk k7)
     | (refine at_store (ty:=38) rfl ?_; refine store_rows rfl 38 _ _ rfl intl_one w0 w7 [] _ 85 4 g 1 1 [.string s,.slice ta2 (ns.length + 1) tc2,fv,ov] HQ7.out HT7.out 2 (by decide) (by rfl) (.slice xa (fr.length + 1) xc) (by rfl) rfl ?_; intro w8 HQ HT hk; have HR8:=lH (rs_from (p:=p) HQ HT); have HR8t:Hid (Rw.Rows w8 w0.heap.size ([_,_,_] ++ ⟨3,1,ov,to.length,to.map (fun i:Nat => Value.int .i64 (i:Int))⟩ :: _)):=lH (by have h:=HR8.out.rows; rw [rr_to] at h; exact h); have k8:=HR8.out.cells.2.2.2.1; clear HQ HT hk)
     | (at_builtin; refine app_rows elemT rfl _ _ (by rfl) w0 w8 _ rfl [_,_,_] _ ov to.length (to.map (fun i:Nat => Value.int .i64 (i:Int))) (by rfl) HR8t.out HR8.out.since #[.int .i64 ((p:Int) + (k:Int) + (n:Int))] 1 1 (by rfl) rfl (by intro v hv; simp at hv; subst hv; rfl) HB7.out HB8.out ?_; intro ov2 w9 HQ HT hk; obtain ⟨ya,yc,rfl⟩:∃ A c,ov2 = .slice A (to.length + 1) c:=own_any HQ.get; have HQ9:=lH HQ; have HT9:=lH HT; clear HQ HT hk k8)
     | (refine at_store (ty:=38) rfl ?_; refine store_rows rfl 38 _ _ rfl intl_one w0 w9 [] _ 85 4 g 1 1 [.string s,.slice ta2 (ns.length + 1) tc2,.slice xa (fr.length + 1) xc,ov] HQ9.out HT9.out 3 (by decide) (by rfl) (.slice ya (to.length + 1) yc) (by rfl) rfl ?_; intro w10 HQ HT hk; have HR10:=lH (rs_to (p:=p + k + n) (q:=(p:Int) + (k:Int) + (n:Int)) (by omega) HQ HT); have HHD:=hd_s HR10; have m2:=HHD.2.2.2.2.1; have hf:=lone_heap (HR10.out.others.own (lone 44 W.heap.size [.int .i64 0,.int .i64 0]) (by simp)); clear HQ HT hk HHD)
     | (refine wpList_store_row rfl 44 _ _ rfl W.heap.size (F2 0 0) (by rfl) (by rfl) _ _ hf (f2_info 0 0) rfl (f2_one 0 0) ?_))
   have hself:w10.setRow W.heap.size (F2 0 0) = w10:=setRow_self _ _ _ _ _ hf
   rw [hself]
   exact bodyPost_ret (v:=.tuple #[.int .i64 ((p:Int) + (k:Int) + (n:Int)),.agg (F2 0 0)]) (results_t_cell Tryz.results90 _ _ _ _ _ _ _ _ rfl rfl hf Tryz.underlying44 rfl (f2_info 0 0)) rfl ⟨_,_,_,_,rfl,HR10.out.pop.pop,by rw [List.map_append]; rfl,kl_more HK.out _ rfl⟩
end
end Tlv
end Go.Proofs.YtpanhhjkecebkaaGreatDoor
