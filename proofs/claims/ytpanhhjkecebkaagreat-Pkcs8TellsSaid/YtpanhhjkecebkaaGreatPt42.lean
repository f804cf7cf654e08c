import Derived.Test.YtpanhhjkecebkaaGreatPt41
set_option maxRecDepth 100000
namespace Go.Proofs.YtpanhhjkecebkaaGreat
namespace Atm
open Tlv Tree Strs
abbrev AP2:=Int × ByteArray
def under:List Int:=[1,3,6,1,4,1,99999,7]
def arcsA (t:Int):List Int:=under ++ [t]
def nmA (t:Int):ByteArray:=bs (Oid.enc (arcsA t))
def attF (p:AP2):F:=.cons 0 16 (.prim 0 6 (nmA p.1) (.cons 0 17 (.prim 0 4 p.2 .nil) .nil)) .nil
def attN (p:AP2):List Nd:=(attF p).flat 0
end Atm
end Go.Proofs.YtpanhhjkecebkaaGreat
namespace Go.Proofs.YtpanhhjkecebkaaGreat
namespace Atm
open Att
def Ok1 (p:A2):Prop:=1 <= p.1 /\ p.1 <= 65535 /\ p.2.size <= 255
def Up (L:List A2):Prop:=L.Pairwise (fun p q => p.1 < q.1)
def withA (L:List A2) (a:A2):List A2:=L.take (L.findIdx fun p => decide (a.1 < p.1)) ++ a :: L.drop (L.findIdx fun p => decide (a.1 < p.1))
def fldA (ps:List A2):List A2:=ps.foldl withA []
def tags (ps:List A2):List Int:=ps.map Prod.fst
def unpB (ps:List A2):Bool:=decide (tags ps).Nodup && decide (ps.length <= 32)
end Atm
end Go.Proofs.YtpanhhjkecebkaaGreat
namespace Go.Proofs.YtpanhhjkecebkaaGreat
open Go.RowKit
namespace Atf
open Att Atm Tlv
def tgN (N:List Nd) (xs:List Int):Nat -> Bool
 | 0 => true
 | k+1 => tgN N xs k && (match N[k]?,xs[k]? with | some n,some x => (n.c == 0) && (n.t == x) | _,_ => true)
end Atf
end Go.Proofs.YtpanhhjkecebkaaGreat
namespace Go.Proofs.YtpanhhjkecebkaaGreat
namespace Tlv
open F
end Tlv
end Go.Proofs.YtpanhhjkecebkaaGreat
namespace Go.Proofs.YtpanhhjkecebkaaGreat
namespace Tlv
open Tree
theorem pcs_join (s:ByteArray):∀ (f p:Nat) (L:List ByteArray),p <= s.size -> pcsF s f p = .ok L -> (L.map fun b => b.data.toList).flatten = (s.extract p s.size).data.toList:=by
 intro f
 induction f with
 | zero => intro p L _ h; cases h
 | succ f ih =>
   intro p L hp h;unfold pcsF at h
   by_cases h0:s.size <= p
   · rw [if_pos h0] at h;cases h;have h9:=ext_len s p s.size (Nat.le_refl _)
     symm
     exact List.eq_nil_of_length_eq_zero (by omega)
   · rw [if_neg h0] at h;obtain ⟨⟨hh,k,x⟩,hq⟩:∃ y,y = Head.dec (s.extract p s.size).data.toList:=⟨_,rfl⟩
     rw [<- hq] at h;dsimp only at h
     by_cases hx:x ≠ 0
     · rw [if_pos hx] at h; cases h
     rw [if_neg hx] at h
     by_cases hf:s.size - p < k + hh.n
     · rw [if_pos hf] at h; cases h
     rw [if_neg hf] at h;cases hr:pcsF s f (p + (k + hh.n)) with
     | error y => rw [hr] at h; cases h
     | ok l =>
       rw [hr] at h;cases h;rw [List.map_cons,List.flatten_cons,ih _ _ (by omega) hr,<- ext_app s p (p + (k + hh.n)) s.size (by omega) (by omega)]
theorem pcs_err (s:ByteArray):∀ (f p c q:Nat),pcsF s f p = .error (c,q) -> c ≠ 0:=by
 intro f
 induction f with
 | zero => intro p c q h; cases h; decide
 | succ f ih =>
   intro p c q h;unfold pcsF at h
   by_cases h0:s.size <= p
   · rw [if_pos h0] at h; cases h
   · rw [if_neg h0] at h;obtain ⟨⟨hh,k,x⟩,hq⟩:∃ y,y = Head.dec (s.extract p s.size).data.toList:=⟨_,rfl⟩
     rw [<- hq] at h;dsimp only at h
     by_cases hx:x ≠ 0
     · rw [if_pos hx] at h; cases h; exact hx
     rw [if_neg hx] at h
     by_cases hf:s.size - p < k + hh.n
     · rw [if_pos hf] at h; cases h; decide
     rw [if_neg hf] at h;cases hr:pcsF s f (p + (k + hh.n)) with
     | error y => rw [hr] at h; cases h; exact ih _ _ _ hr
     | ok l => rw [hr] at h; cases h
theorem enc_one {g:F} (hs:single g) (hok:okF Strs.rightB g) (hl:g.enc.length <= 65535):∃ c t b n B,c <= 3 /\ t <= 2097151 /\ n <= 65535 /\ g.enc = Head.encL c t b n ++ B /\ B.length = n:=by
 cases g with
 | nil => exact absurd hs (by intro h; exact h)
 | prim c t d nx =>
   cases (show nx = .nil from hs);obtain ⟨a1,a2,-,-⟩:=hok;have e:(F.prim c t d .nil).enc = Head.encL c t false d.size ++ d.data.toList:=by show Head.encL c t false d.size ++ d.data.toList ++ [] = _; rw [List.append_nil]
   have hd:d.data.toList.length = d.size:=rfl;rw [e,List.length_append] at hl;exact ⟨c,t,false,d.size,d.data.toList,a1,a2,by omega,e,rfl⟩
 | cons c t ks nx =>
   cases (show nx = .nil from hs);obtain ⟨a1,a2,-,-,-⟩:=hok;have e:(F.cons c t ks .nil).enc = Head.encL c t true ks.enc.length ++ ks.enc:=by show Head.encL c t true ks.enc.length ++ ks.enc ++ [] = _; rw [List.append_nil]
   rw [e,List.length_append] at hl;exact ⟨c,t,true,ks.enc.length,ks.enc,a1,a2,by omega,e,rfl⟩
theorem pcs_build (s:ByteArray):∀ (gs:List F) (f p:Nat),(∀ g ∈ gs,single g /\ okF Strs.rightB g /\ g.enc.length <= 65535) -> (s.extract p s.size).data.toList = (gs.map F.enc).flatten -> p <= s.size -> gs.length < f -> pcsF s f p = .ok (gs.map fun g => bs g.enc):=by
 intro gs
 induction gs with
 | nil =>
   intro f p _ h hp hf;obtain ⟨f,rfl⟩:∃ f',f = f' + 1:=⟨f - 1,by omega⟩
   have h9:=ext_len s p s.size (Nat.le_refl _);rw [h] at h9;unfold pcsF;rw [if_pos (by simp at h9; omega)];rfl
 | cons g l ih =>
   intro f p hg h hp hf;obtain ⟨f,rfl⟩:∃ f',f = f' + 1:=⟨f - 1,by omega⟩
   obtain ⟨h1,h2,h3⟩:=hg g (List.mem_cons_self ..);obtain ⟨c,t,b,n,B,b1,b2,b3,b4,b5⟩:=enc_one h1 h2 h3;have h9:=ext_len s p s.size (Nat.le_refl _);rw [h,List.map_cons,List.flatten_cons,List.length_append] at h9;have hlen:g.enc.length = (Head.encL c t b n).length + n:=by rw [b4,List.length_append,b5]
   have h2e:=encL_two c t b n;have hx:(s.extract p (p + g.enc.length)).data.toList = g.enc /\ (s.extract (p + g.enc.length) s.size).data.toList = (l.map F.enc).flatten:=by
     have h8:=ext_app s p (p + g.enc.length) s.size (by omega) (by omega);rw [h,List.map_cons,List.flatten_cons] at h8;exact List.append_inj h8.symm (by rw [ext_len s p _ (by omega)]; omega)
   have hd:Head.dec (s.extract p s.size).data.toList = (⟨c,t,b,n⟩,(Head.encL c t b n).length,0):=by
     rw [h,List.map_cons,List.flatten_cons,b4,List.append_assoc];exact Head.dec_enc c t n b b1 b2 b3 _
   have hl:=ih f (p + g.enc.length) (fun g' hg' => hg g' (List.mem_cons_of_mem _ hg')) hx.2 (by omega) (by rw [List.length_cons] at hf; omega);unfold pcsF;rw [if_neg (by omega),hd];dsimp only;rw [if_neg (by decide),if_neg (by omega),<- hlen,hl];dsimp only;rw [List.map_cons,show s.extract p (p + g.enc.length) = bs g.enc from ba_ext hx.1]
theorem pcs_all (gs:List F) (hg:∀ g ∈ gs,single g /\ okF Strs.rightB g /\ g.enc.length <= 65535) (hl:(gs.map F.enc).flatten.length <= 65535):pcsV (bs (gs.map F.enc).flatten) = (0,0,gs.map fun g => bs g.enc):=by
 have hx:(bs (gs.map F.enc).flatten).extract 0 (bs (gs.map F.enc).flatten).size = bs (gs.map F.enc).flatten:=by simp
 have hn:∀ hs:List F,(∀ g ∈ hs,single g /\ okF Strs.rightB g /\ g.enc.length <= 65535) -> hs.length <= (hs.map F.enc).flatten.length:=by
   intro hs
   induction hs with
   | nil => intro _; exact Nat.le_refl _
   | cons g l ih =>
     intro h;rw [List.map_cons,List.flatten_cons,List.length_append,List.length_cons];have:=enc_two (h g (List.mem_cons_self ..)).1;have:=ih fun g' hg' => h g' (List.mem_cons_of_mem _ hg')
     omega
 have h1:=hn gs hg;have hz:(bs (gs.map F.enc).flatten).size = (gs.map F.enc).flatten.length:=size_bs _;unfold pcsV;rw [if_neg (by omega),pcs_build _ gs _ 0 hg (by rw [hx]; rfl) (Nat.zero_le _) (by omega)]
theorem pcs_flat (s:ByteArray) (L:List ByteArray) (h:pcsV s = (0,0,L)) (hL:s.size <= 65535):(∃ l,pcsF s (s.size + 1) 0 = .ok l) -> (L.map fun b => b.data.toList).flatten = s.data.toList:=by
 rintro ⟨l,hl⟩;unfold pcsV at h;rw [if_neg (by omega),hl] at h;dsimp only at h;cases h;have hx:s.extract 0 s.size = s:=by simp
 rw [pcs_join s _ _ _ (Nat.zero_le _) hl,hx]
end Tlv
end Go.Proofs.YtpanhhjkecebkaaGreat
namespace Go.Proofs.YtpanhhjkecebkaaGreat
open Go.RowKit
namespace Tlv
open Span Flt Rw
theorem at_store {P:Program} {ops:Array Oper} {Q:Exit -> Act -> World -> Prop} {o:Oper} {rest:List Oper} {a:Act} {w:World} {ty:TypeId} {x y:Operand} (_:o.op = .store ty x y) (h:wpList P ops Q (o :: rest) a w):wpList P ops Q (o :: rest) a w:=h
theorem rows_drop {w:World} {base:Nat} {r:Row} {rs:List Row} (h:Rw.Rows w base (r :: rs)):Rw.Rows w base rs:=⟨fun x hx => h.own x (by simp [hx]),(List.pairwise_cons.1 h.apart).2⟩
theorem rows_dropN {w:World} {base:Nat} (A:List Row) {rs:List Row} (h:Rw.Rows w base (A ++ rs)):Rw.Rows w base rs:=⟨fun x hx => h.own x (by simp [hx]),(List.pairwise_append.1 h.apart).2.1⟩
theorem rows_ins {w:World} {base:Nat} (A B:List Row) (h:Rw.Rows w base (A ++ B)) (e:TypeId) (k:Nat):Rw.Rows w base (A ++ ⟨e,k,.slice none 0 0,0,[]⟩ :: B):=by
 obtain ⟨ho,ha⟩:=h;rw [List.pairwise_append] at ha;obtain ⟨a1,a2,a3⟩:=ha;refine ⟨fun r hr => ?_, ?_⟩
 · rcases List.mem_append.1 hr with hr | hr
   · exact ho r (by simp [hr])
   · rcases List.mem_cons.1 hr with rfl | hr
     · exact World.ownsRow_nil w base e k
     · exact ho r (by simp [hr])
 · rw [List.pairwise_append,List.pairwise_cons];refine ⟨a1,⟨fun b _ => Apart.none,a2⟩,fun a ha b hb => ?_⟩;rcases List.mem_cons.1 hb with rfl | hb
   · exact Apart.none.symm
   · exact a3 a ha b hb
def lone (t:TypeId) (g:Nat) (C:List Value):Row:=⟨t,C.length,.slice (some ⟨g,0,none⟩) 1 1,1,C⟩
theorem rows_push {w:World} {base:Nat} {rs:List Row} (h:Rw.Rows w base rs) (hb:base <= w.heap.size) (C:List Value) (t:TypeId):Rw.Rows (w.alloc (.cells C.toArray t)) base (lone t w.heap.size C :: rs):=by
 obtain ⟨ho,ha⟩:=h;refine ⟨fun r hr => ?_,List.pairwise_cons.2 ⟨fun r hr g hg => ?_,ha⟩⟩
 · rcases List.mem_cons.1 hr with rfl | hr
   · refine ⟨by simp [lone],.inr ⟨w.heap.size,1,C.toArray,rfl,hb,heap_alloc_new w _,Nat.le_refl _,by decide,by simp [lone], ?_⟩⟩;simp [lone]
   · exact World.ownsRow.alloc (ho r hr) _
 · intro h2;have h3:g = w.heap.size:=by cases hg; rfl
   have h4:=(World.ownsRow.lt (ho r hr) g h2).2;omega
theorem lone_heap {w:World} {base:Nat} {t:TypeId} {g:Nat} {C:List Value} (h:(lone t g C).own w base):w.heap[g]? = some (.cells C.toArray t (0,0)):=by
 rcases h.2 with ⟨h0,_⟩ | ⟨g',cap,cur,hv,hb,hg,hc,hm,hs,ht⟩
 · cases h0
 · cases hv;rw [hg]
   congr 2
   apply Array.ext'
   have h1:cur.toList.length = 1 * C.length:=by simpa [lone] using hs
   have h2:cur.toList.take (1 * C.length) = C:=ht;rw [<- h1,List.take_length] at h2;exact h2
theorem lone_cell {w:World} {base:Nat} {t:TypeId} {g:Nat} {C:List Value} (h:(lone t g C).own w base) (i:Nat) (v:Value) (hv:C[i]? = some v):w.cell? ⟨g,i,none⟩ = some v /\ w.frozen? ⟨g,i,none⟩ = false:=by
 have h1:=lone_heap h;refine ⟨?_,frozen_of_row _ _ i _ _ h1⟩;unfold World.cell?;rw [h1]
 simpa using hv
def RR (g:Nat) (s:ByteArray) (tv fv ov:Value) (ns:List (Nd × Value)) (fr to:List Nat) (X:List Row):List Row :=
 lone 147 g [.string s,tv,fv,ov] :: ⟨87,5,tv,ns.length,ns.flatMap nc⟩ :: ⟨3,1,fv,fr.length,fr.map (fun i:Nat => Value.int .i64 (i:Int))⟩ :: ⟨3,1,ov,to.length,to.map (fun i:Nat => Value.int .i64 (i:Int))⟩ :: (ns.map kr ++ X)
structure RS (w0:World) (g:Nat) (s:ByteArray) (tv fv ov:Value) (ns:List (Nd × Value)) (fr to:List Nat) (X:List Row) (W:World):Prop where
 rows:Rw.Rows W w0.heap.size (RR g s tv fv ov ns fr to X)
 since:Since w0 W
section
variable {w0:World} {g:Nat} {s:ByteArray} {tv fv ov:Value} {ns:List (Nd × Value)} {fr to:List Nat} {X:List Row} {W:World}
theorem RS.step {W':World} (h:RS w0 g s tv fv ov ns fr to X W) (hb:Since W W'):RS w0 g s tv fv ov ns fr to X W':=⟨h.rows.since hb,h.since.step hb⟩
theorem RS.cells (h:RS w0 g s tv fv ov ns fr to X W):W.cell? ⟨g,0,none⟩ = some (.string s) /\ W.cell? ⟨g,1,none⟩ = some tv /\ W.cell? ⟨g,2,none⟩ = some fv /\ W.cell? ⟨g,3,none⟩ = some ov /\ ∀ i,W.frozen? ⟨g,i,none⟩ = false:=by
 have h1:=h.rows.own (lone 147 g [.string s,tv,fv,ov]) (by unfold RR; simp);have h2:=lone_heap h1;exact ⟨(lone_cell h1 0 _ rfl).1,(lone_cell h1 1 _ rfl).1,(lone_cell h1 2 _ rfl).1,(lone_cell h1 3 _ rfl).1,fun i => frozen_of_row _ _ i _ _ h2⟩
theorem RS.tvo (h:RS w0 g s tv fv ov ns fr to X W):W.ownsRow w0.heap.size 87 5 tv ns.length (ns.flatMap nc):=h.rows.own ⟨87,5,tv,ns.length,ns.flatMap nc⟩ (by unfold RR; simp)
theorem RS.push (h:RS w0 g s tv fv ov ns fr to X W) (C:List Value) (t:TypeId):RS w0 g s tv fv ov ns fr to (lone t W.heap.size C :: X) (W.alloc (.cells C.toArray t)):=by
 refine ⟨?_,h.since.alloc _⟩;have h1:=rows_push h.rows (Below.size h.since) C t;obtain ⟨ho,ha⟩:=h1;have hp:(lone t W.heap.size C :: RR g s tv fv ov ns fr to X).Perm (RR g s tv fv ov ns fr to (lone t W.heap.size C :: X)):=by
   unfold RR;have h2:(ns.map kr ++ lone t W.heap.size C :: X).Perm (lone t W.heap.size C :: (ns.map kr ++ X)):=List.perm_middle;refine List.Perm.trans ?_ (((h2.symm.cons _).cons _).cons _ |>.cons _);refine List.Perm.trans (List.Perm.swap _ _ _) (List.Perm.cons _ ?_);refine List.Perm.trans (List.Perm.swap _ _ _) (List.Perm.cons _ ?_);refine List.Perm.trans (List.Perm.swap _ _ _) (List.Perm.cons _ ?_);exact List.Perm.swap _ _ _
 exact ⟨fun r hr => ho r (hp.mem_iff.2 hr),(hp.pairwise_iff (fun h => Apart.symm h)).1 ha⟩
theorem RS.pop {x:Row} (h:RS w0 g s tv fv ov ns fr to (x :: X) W):RS w0 g s tv fv ov ns fr to X W:=by
 refine ⟨⟨fun r hr => h.rows.own r ?_, ?_⟩,h.since⟩
 · unfold RR at hr ⊢;simp only [List.mem_cons,List.mem_append] at hr ⊢;rcases hr with hr | hr | hr | hr | hr | hr
   · exact .inl hr
   · exact .inr (.inl hr)
   · exact .inr (.inr (.inl hr))
   · exact .inr (.inr (.inr (.inl hr)))
   · exact .inr (.inr (.inr (.inr (.inl hr))))
   · exact .inr (.inr (.inr (.inr (.inr (.inr hr)))))
 · refine List.Pairwise.sublist ?_ h.rows.apart;unfold RR;exact (((List.Sublist.append_left (List.sublist_cons_self x X) (ns.map kr)).cons_cons _).cons_cons _).cons_cons _ |>.cons_cons _
theorem RS.others (h:RS w0 g s tv fv ov ns fr to X W):Rw.Rows W w0.heap.size X:=by
 have h1:=h.rows;unfold RR at h1;have h2:=rows_drop (rows_drop (rows_drop (rows_drop h1)));exact rows_dropN _ h2
end
theorem step_rows {T E:TypeId} {z:Value} {size bytes:Nat} (I:ElemIs T E z size bytes) {ops:Array Oper} {o:Oper} {a:Act} {K:Act -> World -> Prop} {Q:Exit -> Act -> World -> Prop} {E':Prop} (hgd:o.guard = none) (s x:Operand)
   (ho:o.op = .call { callee:=.builtin .append,args:=#[s,x],argTypes:=#[T,T] })
   (w0 w:World) (A B:List Row) (v:Value) (n:Nat) (xs:List Value) (hs:a.eval s = v) (hown:Rw.Rows w w0.heap.size (A ++ ⟨E,size,v,n,xs⟩ :: B)) (hS:Since w0 w)
   (g0:Nat) (ys:List Value) (c m:Nat) (hx:a.eval x = .slice (some ⟨g0,0,none⟩) m c) (hc:∀ j u,ys[j]? = some u -> w.cell? ⟨g0,j,none⟩ = some u) (hl:ys.length = m * size) (hm:0 < m) (h1:∀ u ∈ ys,u.oneCell' = true) (hn:n + m <= maxLen) (hby:(n + m) * bytes <= 140737488355328)
   (h:∀ v' w',Rw.Rows w' w0.heap.size (A ++ ⟨E,size,v',n + m,xs ++ ys⟩ :: B) -> Since w0 w' -> K (a.put o.dst v') w') :
   if Region.wanted o (yielded ops a.tmps) = true then Oper.wp Tryz.prog o a w K Q else E':=by
 obtain ⟨ht,hi,hz,hs0⟩:=I;obtain ⟨i,hi1,hi2⟩:=Option.map_eq_some_iff.1 hi;simp only [Prod.mk.injEq] at hi2;have hown1:=hown.get;refine step_append_lies w hgd s x T ho w0.heap.size E i z size bytes ht hi1 hi2.1 hi2.2.1 hi2.2.2 hz hs0 v n xs hs hown1 ⟨g0,0,none⟩ m c ys hx hl ?_ h1 hm hn hby (Below.size hS) w.heap.size rfl ?_
 · intro j u hu;have hadd:(⟨g0,0,none⟩:Addr).add j = ⟨g0,j,none⟩:=by unfold Addr.add; split <;> simp_all
   rw [hadd];exact hc j u hu
 · intro g cap w' hown' hg hat hlt;refine h _ w' (hown.turn ⟨E,size,_,n + m,xs ++ ys⟩ hown' fun u hu hap => ⟨?_, ?_⟩) (Below.grown hS hg (Below.size hS) (fun k hk => (hown1.lt k hk).1))
   · refine World.ownsRow.kept hu hg ?_;cases hub:u.v.ownBlock with
     | none => exact Or.inl rfl
     | some b => exact Or.inr fun e => hap b e.symm hub
   · intro b h2 h3;cases h2;rcases hat with hat | hat
     · exact hap _ hat h3
     · have h4:g < w.heap.size:=(World.ownsRow.lt hu _ h3).2;omega
section
variable {w0:World} {g:Nat} {s:ByteArray} {tv fv ov:Value} {ns:List (Nd × Value)} {fr to:List Nat} {X:List Row} {W:World}
theorem rsD (h:Hid (RS w0 g s tv fv ov ns fr to X W)):Hid (RS w0 g s tv fv ov ns fr to X W.drew):=lH (h.out.step (Since.drew (Since.refl _)))
theorem rsA (o:Obj) (h:Hid (RS w0 g s tv fv ov ns fr to X W)):Hid (RS w0 g s tv fv ov ns fr to X (W.alloc o)):=lH (h.out.step (Since.alloc (Since.refl _) o))
theorem en_s {gN:Nat} {a b c d e:Value} (h:Hid (RS w0 g s tv fv ov ns fr to (lone 87 gN [a,b,c,d,e] :: X) W)):Hid (RS w0 g s tv fv ov ns fr to (lone 87 gN [a,b,c,d,e] :: X) W) /\ W.cell? ⟨g,1,none⟩ = some tv /\
   W.cell? ⟨gN,0,none⟩ = some a /\ W.cell? ⟨gN,1,none⟩ = some b /\ W.cell? ⟨gN,2,none⟩ = some c /\ W.cell? ⟨gN,3,none⟩ = some d /\ W.cell? ⟨gN,4,none⟩ = some e:=by
 have h1:=h.out.others.own (lone 87 gN [a,b,c,d,e]) (by simp);exact ⟨h,h.out.cells.2.1,(lone_cell h1 0 _ rfl).1,(lone_cell h1 1 _ rfl).1,(lone_cell h1 2 _ rfl).1,(lone_cell h1 3 _ rfl).1,(lone_cell h1 4 _ rfl).1⟩
theorem hd_s {gH:Nat} {a b c d:Value} (h:Hid (RS w0 g s tv fv ov ns fr to (lone 126 gH [a,b,c,d] :: X) W)):Hid (RS w0 g s tv fv ov ns fr to (lone 126 gH [a,b,c,d] :: X) W) /\ W.cell? ⟨g,0,none⟩ = some (.string s) /\
   W.cell? ⟨gH,0,none⟩ = some a /\ W.cell? ⟨gH,1,none⟩ = some b /\ W.cell? ⟨gH,2,none⟩ = some c /\ W.cell? ⟨gH,3,none⟩ = some d:=by
 have h1:=h.out.others.own (lone 126 gH [a,b,c,d]) (by simp);exact ⟨h,h.out.cells.1,(lone_cell h1 0 _ rfl).1,(lone_cell h1 1 _ rfl).1,(lone_cell h1 2 _ rfl).1,(lone_cell h1 3 _ rfl).1⟩
theorem RS.lt (h:RS w0 g s tv fv ov ns fr to X W):g < W.heap.size:=(Array.getElem?_eq_some_iff.1 (lone_heap (h.rows.own (lone 147 g [.string s,tv,fv,ov]) (by unfold RR; simp)))).1
theorem RS.ltX {t:TypeId} {gb:Nat} {C:List Value} (h:RS w0 g s tv fv ov ns fr to (lone t gb C :: X) W):gb < W.heap.size:=(Array.getElem?_eq_some_iff.1 (lone_heap (h.others.own (lone t gb C) (by simp)))).1
theorem rsS {W':World} (hb:Since W W') (h:Hid (RS w0 g s tv fv ov ns fr to X W)):Hid (RS w0 g s tv fv ov ns fr to X W'):=lH (h.out.step hb)
theorem alloc_cell (w:World) (C:List Value) (t:TypeId) (j:Nat) (u:Value) (h:C[j]? = some u):(w.alloc (.cells C.toArray t)).cell? ⟨w.heap.size,j,none⟩ = some u:=by
 unfold World.cell?;rw [heap_alloc_new]
 simpa using h
theorem alloc_cell_at (w:World) (C:List Value) (t:TypeId) (G:Nat) (hG:w.heap.size = G) (j:Nat) (u:Value) (h:C[j]? = some u):(w.alloc (.cells C.toArray t)).cell? ⟨G,j,none⟩ = some u:=by
 subst hG;exact alloc_cell w C t j u h
theorem lone_base {w:World} {base:Nat} {t:TypeId} {C:List Value} (h:(lone t g C).own w base):base <= g:=by
 rcases h.2 with ⟨h0,_⟩ | ⟨g',cap,cur,hv,hb,_⟩
 · cases h0
 · cases hv; exact hb
theorem rs_node {tv2:Value} {c t:Int} {b:Bool} {d:ByteArray} (hQ:Rw.Rows W w0.heap.size ([lone 147 g [.string s,tv,fv,ov]] ++ ⟨87,5,tv2,ns.length + 1,ns.flatMap nc ++ [.int .i64 c,.int .i64 t,.bool b,.string d,.slice none 0 0]⟩ :: ((RR g s tv fv ov ns fr to X).drop 2))) (hS:Since w0 W) :
   RS w0 g s tv2 fv ov (ns ++ [(⟨c,t,b,d,[]⟩,.slice none 0 0)]) fr to X (W.setCell ⟨g,1,none⟩ tv2):=by
 have hg:=lone_base (hQ.own (lone 147 g [.string s,tv,fv,ov]) (by simp));have h1:=Rw.Rows.set (A:=[]) (B:=⟨87,5,tv2,ns.length + 1,ns.flatMap nc ++ [.int .i64 c,.int .i64 t,.bool b,.string d,.slice none 0 0]⟩ :: ((RR g s tv fv ov ns fr to X).drop 2)) (e:=147) (k:=4) (g:=g) (n:=1) (c:=1) (xs:=[.string s,tv,fv,ov]) hQ 1 (by decide) tv2;refine ⟨?_,Below.setCell (p:=⟨g,1,none⟩) hS hg _⟩;have h2:=rows_ins (⟨147,4,.slice (some ⟨g,0,none⟩) 1 1,1,[.string s,tv2,fv,ov]⟩ :: ⟨87,5,tv2,ns.length + 1,ns.flatMap nc ++ [.int .i64 c,.int .i64 t,.bool b,.string d,.slice none 0 0]⟩ :: ⟨3,1,fv,fr.length,fr.map (fun i:Nat => Value.int .i64 (i:Int))⟩ :: ⟨3,1,ov,to.length,to.map (fun i:Nat => Value.int .i64 (i:Int))⟩ :: ns.map kr) X h1 3 1;have e1:RR g s tv2 fv ov (ns ++ [(⟨c,t,b,d,[]⟩,.slice none 0 0)]) fr to X = (⟨147,4,.slice (some ⟨g,0,none⟩) 1 1,1,[.string s,tv2,fv,ov]⟩ :: ⟨87,5,tv2,ns.length + 1,ns.flatMap nc ++ [.int .i64 c,.int .i64 t,.bool b,.string d,.slice none 0 0]⟩ :: ⟨3,1,fv,fr.length,fr.map (fun i:Nat => Value.int .i64 (i:Int))⟩ :: ⟨3,1,ov,to.length,to.map (fun i:Nat => Value.int .i64 (i:Int))⟩ :: ns.map kr) ++ ⟨3,1,.slice none 0 0,0,[]⟩ :: X:=by
   unfold RR;rw [List.map_append,List.length_append,List.flatMap_append,List.append_assoc]
   show _ = _ :: _ :: _ :: _ :: (ns.map kr ++ _ :: X)
   simp only [List.flatMap_cons,List.flatMap_nil,List.append_nil,List.map_cons,List.map_nil];rfl
 rw [e1];exact h2
theorem rr_from (g:Nat) (s:ByteArray) (tv fv ov:Value) (ns:List (Nd × Value)) (fr to:List Nat) (X:List Row):RR g s tv fv ov ns fr to X = [lone 147 g [.string s,tv,fv,ov],⟨87,5,tv,ns.length,ns.flatMap nc⟩] ++ ⟨3,1,fv,fr.length,fr.map (fun i:Nat => Value.int .i64 (i:Int))⟩ :: ((RR g s tv fv ov ns fr to X).drop 3):=rfl
theorem rr_to (g:Nat) (s:ByteArray) (tv fv ov:Value) (ns:List (Nd × Value)) (fr to:List Nat) (X:List Row):RR g s tv fv ov ns fr to X = [lone 147 g [.string s,tv,fv,ov],⟨87,5,tv,ns.length,ns.flatMap nc⟩,⟨3,1,fv,fr.length,fr.map (fun i:Nat => Value.int .i64 (i:Int))⟩] ++ ⟨3,1,ov,to.length,to.map (fun i:Nat => Value.int .i64 (i:Int))⟩ :: ((RR g s tv fv ov ns fr to X).drop 4):=rfl
theorem rs_from {fv2:Value} {p:Nat} (h:Rw.Rows W w0.heap.size ([] ++ ⟨147,4,.slice (some ⟨g,0,none⟩) 1 1,1,[Value.string s,tv,fv,ov].set 2 fv2⟩ :: ([⟨87,5,tv,ns.length,ns.flatMap nc⟩] ++ ⟨3,1,fv2,fr.length + 1,fr.map (fun i:Nat => Value.int .i64 (i:Int)) ++ [.int .i64 (p:Int)]⟩ :: ((RR g s tv fv ov ns fr to X).drop 3)))) (hS:Since w0 W) :
   RS w0 g s tv fv2 ov ns (fr ++ [p]) to X W:=by
 refine ⟨?_,hS⟩;unfold RR;rw [List.length_append,List.map_append];exact h
theorem rs_to {ov2:Value} {p:Nat} {q:Int} (hq:q = (p:Int)) (h:Rw.Rows W w0.heap.size ([] ++ ⟨147,4,.slice (some ⟨g,0,none⟩) 1 1,1,[Value.string s,tv,fv,ov].set 3 ov2⟩ :: ([⟨87,5,tv,ns.length,ns.flatMap nc⟩,⟨3,1,fv,fr.length,fr.map (fun i:Nat => Value.int .i64 (i:Int))⟩] ++ ⟨3,1,ov2,to.length + 1,to.map (fun i:Nat => Value.int .i64 (i:Int)) ++ [.int .i64 q]⟩ :: ((RR g s tv fv ov ns fr to X).drop 4)))) (hS:Since w0 W) :
   RS w0 g s tv fv ov2 ns fr (to ++ [p]) X W:=by
 subst hq;refine ⟨?_,hS⟩;unfold RR;rw [List.length_append,List.map_append];exact h
end
end Tlv
namespace Tlv
open Span Flt Rw
theorem app_one_h {T E:TypeId} {z:Value} {bytes:Nat} (I:ElemIs T E z 1 bytes) {ops:Array Oper} {rest:List Oper} {o:Oper} {a:Act} {Q:Exit -> Act -> World -> Prop} (hgd:o.guard = none) (s x:Operand)
   (ho:o.op = .call { callee:=.builtin .append,args:=#[s,x],argTypes:=#[T,T] })
   (w0 wr:World) (H:Nat) (hH:wr.heap.size = H) (v:Value) (n:Nat) (xs:List Value) (hs:a.eval s = v) (hown:wr.ownsRow w0.heap.size E 1 v n xs) (hS:Since w0 wr)
   (y:Value) (hx:a.eval x = .slice (some ⟨H,0,none⟩) 1 1) (h1:y.oneCell' = true) (hn:n <= 1099511627776) (hby:bytes <= 64)
   (h:∀ v' w',w'.ownsRow w0.heap.size E 1 v' (n + 1) (xs ++ [y]) -> Since w0 w' -> KeptBut wr w' v -> wpList Tryz.prog ops Q rest (a.put o.dst v') w') :
   wpList Tryz.prog ops Q (o :: rest) a (wr.alloc (.cells #[y] E)):=by
 subst hH;refine app_own_k I hgd s x ho w0 wr v n xs hs hown hS #[y] 1 1 hx rfl (fun u hu => by simp at hu; subst hu; exact h1) (by unfold maxLen; omega) (Nat.le_trans (Nat.mul_le_mul (show n + 1 <= 1099511627777 by omega) hby) (by decide)) h
theorem results_c {P:Program} {fn:Func} {p:Tmp} {ty:TypeId} (h:fn.results = #[.cell p ty]) (tmps:Array Value) (w:World) (g:Nat) (t:TypeId) (cs:Array Value) (fr:Nat × Nat) (d:TypeDesc)
   (hp:tmps.getD p undef = .pointer (some ⟨g,0,none⟩)) (hg:w.heap[g]? = some (.cells cs t fr))
   (hu:P.underlying ty = some d) (hd:(match d with | .struct _ | .array _ _ => true | _ => false) = true) (hi:(P.info? ty).map (·.size) = some cs.size) :
   (results fn tmps).run P w = .ok (.agg cs) w:=by
 have hp':tmps[p]?.getD undef = .pointer (some ⟨g,0,none⟩):=by simpa using hp
 simp [results,h,hp',asAddr,run_loadVar_row w g t ty cs fr d hg hu hd hi]
theorem faulty_mak (c p:Int):Mak 92 #[.int .i64 c,.int .i64 p] (.agg (F2 c p)):=by
 intro w;have hr0:Hid (HR w w.heap.size (F2 0 0) 65 (w.alloc (.cells (F2 0 0) 65))):=lH ⟨heap_alloc_new w _⟩;have HS:Hid (Since w (w.alloc (.cells (F2 0 0) 65))):=lH ((Since.refl w).alloc _);unfold F2 at hr0 HS
 go_enter Tryz.func92,Tryz.ntmps92
 go_wp2_with (refine wpList_store_row rfl 65 _ _ rfl w.heap.size (F2 c p) (by rfl) (by rfl) _ _ hr0.out.row (f2_info c p) rfl (f2_one c p) ?_)
 exact bodyPost_ret (v:=.agg (F2 c p)) (results_c Tryz.results92 _ _ _ _ _ _ _ rfl (setRow_heap _ _ _ _ _ _ hr0.out.row) Tryz.underlying65 rfl (f2_info c p)) rfl ⟨rfl,below_setRow HS.out (Nat.le_refl _) _⟩
set_option maxHeartbeats 8000000 in
theorem rpieces_t (s:ByteArray) (hs:s.size <= 65535) (T:Except (Nat × Nat) (List ByteArray)) (hT:pcsF s (s.size + 1) 0 = T) (w:World):Calls Tryz.prog 48 #[.string s] w (PPost w T):=by
 have h1:decide ((65535:Int) < (s.size:Int)) = false:=decide_eq_false (by omega);have h2:decide (65535 < s.size) = false:=decide_eq_false (by omega);have HT:Hid (prepE [] (pcsF s (s.size + 1) 0) = T):=lH (by rw [hT]; cases T <;> rfl);have HR0:Hid ((w.alloc (.cells #[.int .i64 0,.int .i64 0] 65)).ownsRow (w.alloc (.cells #[.int .i64 0,.int .i64 0] 65)).heap.size 9 1 (.slice none 0 0) ([]:List ByteArray).length (([]:List ByteArray).map Value.string)):=lH (World.ownsRow_nil _ _ _ _);have HS0:Hid (Since (w.alloc (.cells #[.int .i64 0,.int .i64 0] 65)) (w.alloc (.cells #[.int .i64 0,.int .i64 0] 65))):=lH (Since.refl _);clear hT
 go_enter Tryz.func48,Tryz.ntmps48
 go_wp2_with fail;go_loopw [4,5] (fun lv rv wr => ∃ (p f:Nat) (L:List ByteArray) (A:Option Addr) (cc:Nat),p <= s.size /\ lv = .slice A L.length cc /\ rv = .int .i64 (p:Int) /\ Hid (L.length <= p) /\ Hid (s.size - p < f) /\ Hid (prepE L (pcsF s f p) = T) /\ Hid (wr.ownsRow (w.alloc (.cells #[.int .i64 0,.int .i64 0] 65)).heap.size 9 1 lv L.length (L.map Value.string)) /\ Hid (Since (w.alloc (.cells #[.int .i64 0,.int .i64 0] 65)) wr)) (fun lv _ _ => s.size + 1 - lenOf lv)
 case atStart => exact ⟨0,s.size + 1,[],none,0,Nat.zero_le _,rfl,rfl,lH (Nat.zero_le _),lH (by omega),HT,HR0,HS0⟩
 case round =>
   clear HT HR0 HS0;obtain ⟨p,f,L,A,cc,hp,rfl,rfl,HLp,HF,HT,HRo,HS⟩:=hrel;obtain ⟨f,rfl⟩:∃ f',f = f' + 1:=⟨f - 1,by have:=HF.out; omega⟩
   by_cases hlt:p < s.size
   · have t1:decide ((p:Int) < (s.size:Int)) = true:=decide_eq_true (by omega);have t2:decide (p < s.size) = true:=decide_eq_true hlt;have hpn:¬ s.size <= p:=by omega
     have i1:(p:Int) <= (s.size:Int):=by omega
     have i2:(0:Int) <= (p:Int):=by omega
     obtain ⟨hh,k,x,hq⟩:∃ hh k x,Head.dec (s.extract p s.size).data.toList = (hh,k,x):=⟨_,_,_,rfl⟩
     have c3:=RefHead.rd_mak (s.extract p s.size) (by rw [ByteArray.size_extract]; omega) _ rfl;rw [hq] at c3;unfold Head.decV Head.hdV at c3;dsimp only at c3
     by_cases hx:x ≠ 0
     · obtain ⟨X,hX⟩:∃ X:Int,X = (x:Int):=⟨_,rfl⟩
       rw [<- hX] at c3;have hX0:(X != 0) = true:=by rw [bne_iff_ne]; omega
       have hW:∀ w',Since w w' -> PPost w T (.returned (.tuple #[.slice none 0 0,.agg (F2 X (p:Int))])) w':=by
         intro w' h;rw [<- HT.out,pcs_bad s f p L hpn hh k x hq hx,hX];exact ⟨rfl,h⟩
       have HW:=lH hW;clear hW hX hx hq HT HF HLp HRo;go_wp2_with fail;refine c3.calls0 ?_;intro w1 h1;have HS1:=lH ((HS.out.step h1).alloc (.cells #[.int .i64 (hh.c:Int),.int .i64 (hh.t:Int),.bool hh.b,.int .i64 (hh.n:Int)] 126));clear h1;go_wp2_with fail;refine (faulty_mak X (p:Int)).calls0 ?_;intro w2 h2;have hr0:=lH (HR.step (w:=w) ⟨heap_alloc_new w (.cells #[.int .i64 0,.int .i64 0] 65)⟩ (HS1.out.step h2));have HSw:=lH ((Since.alloc (Since.refl w) _).step (HS1.out.step h2));clear h2;go_wp2_with (refine wpList_store_row rfl 65 _ _ rfl w.heap.size (F2 X (p:Int)) (by rfl) (by rfl) _ _ hr0.out.row (f2_info X (p:Int)) rfl (f2_one X (p:Int)) ?_)
       exact bodyPost_ret (v:=.tuple #[.slice none 0 0,.agg (F2 X (p:Int))]) (results_t_cell Tryz.results48 _ _ _ _ _ _ _ _ rfl rfl (setRow_heap _ _ _ _ _ _ hr0.out.row) Tryz.underlying65 rfl (f2_info X (p:Int))) rfl (HW.out _ (below_setRow HSw.out (Nat.le_refl _) _))
     obtain rfl:x = 0:=by omega
     obtain ⟨g1,g2,g3,g4,g5⟩:=Head.enc_dec _ _ _ hq;have gl:(Head.encL hh.c hh.t hh.b hh.n).length = k:=by rw [g5,List.length_take]; omega
     have gk:=(Head.encL_len hh.c hh.t hh.b hh.n).1;have g2':2 <= k:=by
       rw [<- gl];unfold Head.encL Head.tagL Head.lenL Head.seg;simp only [List.length_append]
       split <;> (try split) <;> (try split) <;> (try split) <;> (try split) <;> simp
     obtain ⟨N,hN⟩:∃ N:Int,N = (hh.n:Int):=⟨_,rfl⟩
     obtain ⟨C,hC⟩:∃ C:Int,C = (hh.c:Int):=⟨_,rfl⟩
     obtain ⟨U,hU⟩:∃ U:Int,U = (hh.t:Int):=⟨_,rfl⟩
     have hw1:IntKind.i64.wrap ((p:Int) + (k:Int)) = (p:Int) + (k:Int):=IntWalk.i64_in _ (by omega)
     by_cases hf:s.size - p < k + hh.n
     · have hW:∀ w',Since w w' -> PPost w T (.returned (.tuple #[.slice none 0 0,.agg (F2 5 (p:Int))])) w':=by
         intro w' h;rw [<- HT.out,pcs_far s f p L hpn hh k hq hf];exact ⟨rfl,h⟩
       have HW:=lH hW;obtain ⟨Q,hQ⟩:∃ Q:Int,Q = (p:Int) + (k:Int):=⟨_,rfl⟩
       obtain ⟨Z,hZ⟩:∃ Z:Int,Z = Q + N:=⟨_,rfl⟩
       have hw2:IntKind.i64.wrap Z = Z:=IntWalk.i64_in _ (by omega);have t5:decide ((s.size:Int) < Z) = true:=decide_eq_true (by omega);rw [<- hC,<- hU,<- hN] at c3;rw [<- hQ] at hw1;clear hW hx hq HT HF HLp HRo g1 g2 g3 g4 g5 gl gk g2' hf hN hC hU;have HQ:=lH hQ;have HZ:=lH hZ;go_wp2_with fail;refine c3.calls0 ?_;intro w1 h1;have HS1:=lH ((HS.out.step h1).alloc (.cells #[.int .i64 C,.int .i64 U,.bool hh.b,.int .i64 N] 126));have hp:=lH (hb_new w1 KT trivial #[.int .i64 C,.int .i64 U,.bool hh.b,.int .i64 N] 126);have m3:=hp.out.cell 3 _ rfl;clear h1;rw [hZ,hQ] at hw2 t5;rw [hQ] at hw1;clear hQ hZ;go_wp2_with fail;refine (faulty_mak 5 (p:Int)).calls0 ?_;intro w2 h2;have hr0:=lH (HR.step (w:=w) ⟨heap_alloc_new w (.cells #[.int .i64 0,.int .i64 0] 65)⟩ (HS1.out.step h2));have HSw:=lH ((Since.alloc (Since.refl w) _).step (HS1.out.step h2));clear h2;go_wp2_with (refine wpList_store_row rfl 65 _ _ rfl w.heap.size (F2 5 (p:Int)) (by rfl) (by rfl) _ _ hr0.out.row (f2_info 5 (p:Int)) rfl (f2_one 5 (p:Int)) ?_)
       exact bodyPost_ret (v:=.tuple #[.slice none 0 0,.agg (F2 5 (p:Int))]) (results_t_cell Tryz.results48 _ _ _ _ _ _ _ _ rfl rfl (setRow_heap _ _ _ _ _ _ hr0.out.row) Tryz.underlying65 rfl (f2_info 5 (p:Int))) rfl (HW.out _ (below_setRow HSw.out (Nat.le_refl _) _))
     obtain ⟨e2,he2⟩:∃ e2,e2 = p + (k + hh.n):=⟨_,rfl⟩
     obtain ⟨D,hD⟩:∃ D,D = s.extract p e2:=⟨_,rfl⟩
     have HT2:Hid (prepE (L ++ [D]) (pcsF s f e2) = T):=lH (by rw [<- HT.out,pcs_one s f p L hpn hh k hq hf,hD,he2]);have HL2:Hid ((L ++ [D]).length <= e2):=lH (by rw [List.length_append,List.length_singleton]; have:=HLp.out; omega);have HF2:Hid (s.size - e2 < f):=lH (by have:=HF.out; omega);have HE2:Hid (e2 <= s.size):=lH (by omega);have hL9:L.length <= 1099511627776:=by have:=HLp.out; omega
     have HM:Hid (L.length + 1 <= s.size):=lH (by have:=HLp.out; omega);have hw2:IntKind.i64.wrap ((p:Int) + (k:Int) + N) = (e2:Int):=by rw [show (p:Int) + (k:Int) + N = (e2:Int) by omega]; exact IntWalk.i64_in _ (by omega)
     have t5:decide ((s.size:Int) < (e2:Int)) = false:=decide_eq_false (by omega);have t6:decide (s.size < e2) = false:=decide_eq_false (by omega);have i3:(p:Int) <= (e2:Int):=by omega
     have i4:(e2:Int) <= (s.size:Int):=by omega
     have i5:(0:Int) <= (e2:Int):=by omega
     have hD':=lH hD;rw [<- hC,<- hU,<- hN] at c3;clear HT HF HLp hq hx hf g1 g2 g3 g4 g5 gl gk g2' he2 hD hN hC hU;go_wp2_with fail;refine c3.calls0 ?_;intro w1 h1;have hW9:=lH (show Since wr w1 from h1);have HS1:=lH ((HS.out.step h1).alloc (.cells #[.int .i64 C,.int .i64 U,.bool hh.b,.int .i64 N] 126));have HR1:=lH (World.ownsRow.alloc (Att.row_since HRo.out h1) (.cells #[.int .i64 C,.int .i64 U,.bool hh.b,.int .i64 N] 126));have hp:=lH (hb_new w1 KT trivial #[.int .i64 C,.int .i64 U,.bool hh.b,.int .i64 N] 126);have m3:=hp.out.cell 3 _ rfl;clear h1 HS hp;go_wp2_with (at_builtin; refine app_one_h elemS rfl _ _ (by rfl) (w.alloc (.cells #[.int .i64 0,.int .i64 0] 65)) (w1.alloc (.cells #[.int .i64 C,.int .i64 U,.bool hh.b,.int .i64 N] 126)) (w1.heap.size + 1) (by simp) _ L.length _ (by rfl) HR1.out HS1.out (.string (s.extract p e2)) (by rfl) rfl hL9 (by decide) ?_; intro v2 w2 hO hS2 hk9; obtain ⟨A2,c9,rfl⟩:∃ A c,v2 = .slice A (L.length + 1) c:=own_any hO; have HO:=lH hO; have HS2:=lH hS2; have k3:=(hk9.cell (p:=⟨w1.heap.size,3,none⟩) (by simp) (own_lt HRo.out (Below.size hW9.out))).trans m3; clear hO hS2 m3 hk9)
     go_round
     case rel => exact ⟨e2,f,L ++ [D],A2,c9,HE2.out,by rw [List.length_append]; rfl,rfl,HL2,HF2,HT2,lH (by rw [List.length_append,List.map_append,hD'.out]; exact HO.out),HS2⟩
     case measure => show s.size + 1 - (L.length + 1) < s.size + 1 - L.length; have:=HM.out; omega
   · have t1:decide ((p:Int) < (s.size:Int)) = false:=decide_eq_false (by omega);have t2:decide (p < s.size) = false:=decide_eq_false hlt;have HOK:Hid (T = .ok L):=lH (by rw [<- HT.out]; exact pcs_end s f p L (by omega));have hr0:=lH (HR.step (w:=w) ⟨heap_alloc_new w (.cells #[.int .i64 0,.int .i64 0] 65)⟩ HS.out);have HSw:=lH ((Since.alloc (Since.refl w) _).step HS.out);clear HT HF HLp;go_wp2_with (refine wpList_store_row rfl 65 _ _ rfl w.heap.size (F2 0 0) (by rfl) (by rfl) _ _ hr0.out.row (f2_info 0 0) rfl (f2_one 0 0) ?_)
     have hself:wr.setRow w.heap.size (F2 0 0) = wr:=setRow_self _ _ _ _ _ hr0.out.row;rw [hself];refine bodyPost_ret (v:=.tuple #[.slice A L.length cc,.agg (F2 0 0)]) (results_t_cell Tryz.results48 _ _ _ _ _ _ _ _ rfl rfl hr0.out.row Tryz.underlying65 rfl (f2_info 0 0)) rfl ?_;rw [HOK.out];exact ⟨_,rfl,strs_own HRo.out,HSw.out⟩
end Tlv
namespace Tlv
open Span Flt Rw
theorem rows_setRow {w:World} {base:Nat} {t:TypeId} {g:Nat} {C:List Value} {rs:List Row} (h:Rw.Rows w base (lone t g C :: rs)) (D:Array Value):Rw.Rows (w.setRow g D) base rs:=by
 have ha:=List.pairwise_cons.1 h.apart;refine ⟨fun r hr => ?_,ha.2⟩;have h1:=h.own r (by simp [hr]);refine ⟨h1.1, ?_⟩;rcases h1.2 with h2 | ⟨g',cap,cur,hv,hb,hg,rest⟩
 · exact .inl h2
 · refine .inr ⟨g',cap,cur,hv,hb, ?_,rest⟩;have hne:g' ≠ g:=fun e => ha.1 r hr g rfl (by rw [hv,e]; rfl)
   rw [setRow_other w g g' _ hne];exact hg
def ElErr (w0:World) (X:List Row) (c p:Int) (x:Ending) (W':World):Prop:=x = .returned (.tuple #[.int .i64 0,.agg (F2 c p)]) /\ Rw.Rows W' w0.heap.size X /\ Since w0 W'
section
variable (w0:World) (g:Nat) (s:ByteArray) (tv fv ov:Value) (ns:List (Nd × Value)) (fr to:List Nat) (X:List Row) (W:World) (p e deep c t n k x:Int) (b:Bool) (D:ByteArray)
set_option maxHeartbeats 4000000 in
theorem el_bad (hRS:RS w0 g s tv fv ov ns fr to X W) (i1:0 <= p) (i2:p <= e) (i3:e <= (s.size:Int)) (hD:s.extract p.toNat e.toNat = D) (hx:(x != 0) = true)
   (c1:Mak 93 #[.string D] (.tuple #[.agg #[.int .i64 c,.int .i64 t,.bool b,.int .i64 n],.int .i64 k,.int .i64 x])) :
   Calls Tryz.prog 139 #[.pointer (some ⟨g,0,none⟩),.int .i64 p,.int .i64 e,.int .i64 deep] W (ElErr w0 X x p):=by
 subst hD;have HRS:=lH (hRS.push [.int .i64 0,.int .i64 0] 65);obtain ⟨z0,-,-,-,-⟩:=HRS.out.cells;have hwb:=lH (Below.size hRS.since);clear hRS
 go_enter Tryz.func139,Tryz.ntmps139
 go_wp2_with fail;refine c1.calls0 ?_;intro w1 h1;have HR1:=lH ((HRS.out.step h1).push [.int .i64 c,.int .i64 t,.bool b,.int .i64 n] 126);have hh:=lone_heap (HR1.out.others.own (lone 126 w1.heap.size [.int .i64 c,.int .i64 t,.bool b,.int .i64 n]) (by simp));have hp:=lH (hb_new w1 KT trivial #[.int .i64 c,.int .i64 t,.bool b,.int .i64 n] 126);obtain ⟨_,m0,m1,m2,m3⟩:=hb4 hp;clear h1 hh z0;go_wp2_with fail;refine (faulty_mak x p).calls0 ?_;intro w2 h2;have HR2:=lH ((HR1.out.step h2).others);have hf:=lone_heap (HR2.out.own (lone 65 W.heap.size [.int .i64 0,.int .i64 0]) (by simp));have HS2:=lH ((HR1.out.step h2).since);clear h2;go_wp2_with (refine wpList_store_row rfl 65 _ _ rfl W.heap.size (F2 x p) (by rfl) (by rfl) _ _ hf (f2_info x p) rfl (f2_one x p) ?_)
 exact bodyPost_ret (v:=.tuple #[.int .i64 0,.agg (F2 x p)]) (results_t_cell Tryz.results139 _ _ _ _ _ _ _ _ rfl rfl (setRow_heap _ _ _ _ _ _ hf) Tryz.underlying65 rfl (f2_info x p)) rfl ⟨rfl,rows_setRow (rows_drop HR2.out) _,below_setRow HS2.out hwb.out _⟩
set_option maxHeartbeats 4000000 in
theorem el_far (hRS:RS w0 g s tv fv ov ns fr to X W) (i1:0 <= p) (i2:p <= e) (i3:e <= (s.size:Int)) (hs:s.size <= 65535) (hD:s.extract p.toNat e.toNat = D) (i4:0 <= k) (i5:k <= 100) (i6:0 <= n) (i7:n <= 65535) (hx:decide (e < p + k + n) = true)
   (c1:Mak 93 #[.string D] (.tuple #[.agg #[.int .i64 c,.int .i64 t,.bool b,.int .i64 n],.int .i64 k,.int .i64 0])) :
   Calls Tryz.prog 139 #[.pointer (some ⟨g,0,none⟩),.int .i64 p,.int .i64 e,.int .i64 deep] W (ElErr w0 X 5 p):=by
 have hw1:IntKind.i64.wrap (p + k) = p + k:=IntWalk.i64_in _ (by omega);have hw2:IntKind.i64.wrap (p + k + n) = p + k + n:=IntWalk.i64_in _ (by omega);subst hD;have HRS:=lH (hRS.push [.int .i64 0,.int .i64 0] 65);obtain ⟨z0,-,-,-,-⟩:=HRS.out.cells;have hwb:=lH (Below.size hRS.since);clear hRS
 go_enter Tryz.func139,Tryz.ntmps139
 go_wp2_with fail;refine c1.calls0 ?_;intro w1 h1;have HR1:=lH ((HRS.out.step h1).push [.int .i64 c,.int .i64 t,.bool b,.int .i64 n] 126);have hh:=lone_heap (HR1.out.others.own (lone 126 w1.heap.size [.int .i64 c,.int .i64 t,.bool b,.int .i64 n]) (by simp));have hp:=lH (hb_new w1 KT trivial #[.int .i64 c,.int .i64 t,.bool b,.int .i64 n] 126);obtain ⟨_,m0,m1,m2,m3⟩:=hb4 hp;clear h1 hh z0;go_wp2_with fail;refine (faulty_mak 5 p).calls0 ?_;intro w2 h2;have HR2:=lH ((HR1.out.step h2).others);have hf:=lone_heap (HR2.out.own (lone 65 W.heap.size [.int .i64 0,.int .i64 0]) (by simp));have HS2:=lH ((HR1.out.step h2).since);clear h2;go_wp2_with (refine wpList_store_row rfl 65 _ _ rfl W.heap.size (F2 5 p) (by rfl) (by rfl) _ _ hf (f2_info 5 p) rfl (f2_one 5 p) ?_)
 exact bodyPost_ret (v:=.tuple #[.int .i64 0,.agg (F2 5 p)]) (results_t_cell Tryz.results139 _ _ _ _ _ _ _ _ rfl rfl (setRow_heap _ _ _ _ _ _ hf) Tryz.underlying65 rfl (f2_info 5 p)) rfl ⟨rfl,rows_setRow (rows_drop HR2.out) _,below_setRow HS2.out hwb.out _⟩
set_option maxHeartbeats 4000000 in
theorem el_deep (hRS:RS w0 g s tv fv ov ns fr to X W) (i1:0 <= p) (i2:p <= e) (i3:e <= (s.size:Int)) (hs:s.size <= 65535) (hD:s.extract p.toNat e.toNat = D) (i4:0 <= k) (i5:k <= 100) (i6:0 <= n) (i7:n <= 65535) (hf:decide (e < p + k + n) = false) (hx:decide (16 < deep) = true)
   (c1:Mak 93 #[.string D] (.tuple #[.agg #[.int .i64 c,.int .i64 t,.bool b,.int .i64 n],.int .i64 k,.int .i64 0])) :
   Calls Tryz.prog 139 #[.pointer (some ⟨g,0,none⟩),.int .i64 p,.int .i64 e,.int .i64 deep] W (ElErr w0 X 6 p):=by
 have hw1:IntKind.i64.wrap (p + k) = p + k:=IntWalk.i64_in _ (by omega);have hw2:IntKind.i64.wrap (p + k + n) = p + k + n:=IntWalk.i64_in _ (by omega);subst hD;have HRS:=lH (hRS.push [.int .i64 0,.int .i64 0] 65);obtain ⟨z0,-,-,-,-⟩:=HRS.out.cells;have hwb:=lH (Below.size hRS.since);clear hRS
 go_enter Tryz.func139,Tryz.ntmps139
 go_wp2_with fail;refine c1.calls0 ?_;intro w1 h1;have HR1:=lH ((HRS.out.step h1).push [.int .i64 c,.int .i64 t,.bool b,.int .i64 n] 126);have hh:=lone_heap (HR1.out.others.own (lone 126 w1.heap.size [.int .i64 c,.int .i64 t,.bool b,.int .i64 n]) (by simp));have hp:=lH (hb_new w1 KT trivial #[.int .i64 c,.int .i64 t,.bool b,.int .i64 n] 126);obtain ⟨_,m0,m1,m2,m3⟩:=hb4 hp;clear h1 hh z0;go_wp2_with fail;refine (faulty_mak 6 p).calls0 ?_;intro w2 h2;have HR2:=lH ((HR1.out.step h2).others);have hf:=lone_heap (HR2.out.own (lone 65 W.heap.size [.int .i64 0,.int .i64 0]) (by simp));have HS2:=lH ((HR1.out.step h2).since);clear h2;go_wp2_with (refine wpList_store_row rfl 65 _ _ rfl W.heap.size (F2 6 p) (by rfl) (by rfl) _ _ hf (f2_info 6 p) rfl (f2_one 6 p) ?_)
 exact bodyPost_ret (v:=.tuple #[.int .i64 0,.agg (F2 6 p)]) (results_t_cell Tryz.results139 _ _ _ _ _ _ _ _ rfl rfl (setRow_heap _ _ _ _ _ _ hf) Tryz.underlying65 rfl (f2_info 6 p)) rfl ⟨rfl,rows_setRow (rows_drop HR2.out) _,below_setRow HS2.out hwb.out _⟩
set_option maxHeartbeats 4000000 in
theorem el_many (tA:Option Addr) (tc:Nat) (htv:tv = .slice tA ns.length tc) (hRS:RS w0 g s tv fv ov ns fr to X W) (i1:0 <= p) (i2:p <= e) (i3:e <= (s.size:Int)) (hs:s.size <= 65535) (hD:s.extract p.toNat e.toNat = D) (i4:0 <= k) (i5:k <= 100) (i6:0 <= n) (i7:n <= 65535) (hf:decide (e < p + k + n) = false) (hd:decide (16 < deep) = false)
   (hx:decide ((1000:Int) <= (ns.length:Int)) = true) (c1:Mak 93 #[.string D] (.tuple #[.agg #[.int .i64 c,.int .i64 t,.bool b,.int .i64 n],.int .i64 k,.int .i64 0])) :
   Calls Tryz.prog 139 #[.pointer (some ⟨g,0,none⟩),.int .i64 p,.int .i64 e,.int .i64 deep] W (ElErr w0 X 4 p):=by
 have hw1:IntKind.i64.wrap (p + k) = p + k:=IntWalk.i64_in _ (by omega);have hw2:IntKind.i64.wrap (p + k + n) = p + k + n:=IntWalk.i64_in _ (by omega);subst hD htv;have HRS:=lH (hRS.push [.int .i64 0,.int .i64 0] 65);obtain ⟨z0,-,-,-,-⟩:=HRS.out.cells;have hwb:=lH (Below.size hRS.since);clear hRS
 go_enter Tryz.func139,Tryz.ntmps139
 go_wp2_with fail;refine c1.calls0 ?_;intro w1 h1;have HR1:=lH ((HRS.out.step h1).push [.int .i64 c,.int .i64 t,.bool b,.int .i64 n] 126);have hh:=lone_heap (HR1.out.others.own (lone 126 w1.heap.size [.int .i64 c,.int .i64 t,.bool b,.int .i64 n]) (by simp));have hp:=lH (hb_new w1 KT trivial #[.int .i64 c,.int .i64 t,.bool b,.int .i64 n] 126);obtain ⟨_,m0,m1,m2,m3⟩:=hb4 hp;clear h1 hh z0;obtain ⟨z0,z1,-,-,-⟩:=HR1.out.cells;have hx2:decide (1000 <= ns.length) = true:=by have:=of_decide_eq_true hx; exact decide_eq_true (by omega)
 go_wp2_with fail;refine (faulty_mak 4 p).calls0 ?_;intro w2 h2;have HR2:=lH ((HR1.out.step h2).others);have hf:=lone_heap (HR2.out.own (lone 65 W.heap.size [.int .i64 0,.int .i64 0]) (by simp));have HS2:=lH ((HR1.out.step h2).since);clear h2;go_wp2_with (refine wpList_store_row rfl 65 _ _ rfl W.heap.size (F2 4 p) (by rfl) (by rfl) _ _ hf (f2_info 4 p) rfl (f2_one 4 p) ?_)
 exact bodyPost_ret (v:=.tuple #[.int .i64 0,.agg (F2 4 p)]) (results_t_cell Tryz.results139 _ _ _ _ _ _ _ _ rfl rfl (setRow_heap _ _ _ _ _ _ hf) Tryz.underlying65 rfl (f2_info 4 p)) rfl ⟨rfl,rows_setRow (rows_drop HR2.out) _,below_setRow HS2.out hwb.out _⟩
set_option maxHeartbeats 4000000 in
theorem el_fc (tA:Option Addr) (tc:Nat) (htv:tv = .slice tA ns.length tc) (hRS:RS w0 g s tv fv ov ns fr to X W) (i1:0 <= p) (i2:p <= e) (i3:e <= (s.size:Int)) (hs:s.size <= 65535) (hD:s.extract p.toNat e.toNat = D) (i4:0 <= k) (i5:k <= 100) (i6:0 <= n) (i7:n <= 65535) (hf:decide (e < p + k + n) = false) (hd:decide (16 < deep) = false)
   (hx:decide ((1000:Int) <= (ns.length:Int)) = false) (t1:(t != 16) = true) (t2:(t != 17) = true) (c1:Mak 93 #[.string D] (.tuple #[.agg #[.int .i64 0,.int .i64 t,.bool true,.int .i64 n],.int .i64 k,.int .i64 0])) :
   Calls Tryz.prog 139 #[.pointer (some ⟨g,0,none⟩),.int .i64 p,.int .i64 e,.int .i64 deep] W (ElErr w0 X 5 p):=by
 have hw1:IntKind.i64.wrap (p + k) = p + k:=IntWalk.i64_in _ (by omega);have hw2:IntKind.i64.wrap (p + k + n) = p + k + n:=IntWalk.i64_in _ (by omega);subst hD htv;have HRS:=lH (hRS.push [.int .i64 0,.int .i64 0] 65);obtain ⟨z0,-,-,-,-⟩:=HRS.out.cells;have hwb:=lH (Below.size hRS.since);clear hRS
 go_enter Tryz.func139,Tryz.ntmps139
 go_wp2_with fail;refine c1.calls0 ?_;intro w1 h1;have HR1:=lH ((HRS.out.step h1).push [.int .i64 0,.int .i64 t,.bool true,.int .i64 n] 126);have hh:=lone_heap (HR1.out.others.own (lone 126 w1.heap.size [.int .i64 0,.int .i64 t,.bool true,.int .i64 n]) (by simp));have hp:=lH (hb_new w1 KT trivial #[.int .i64 0,.int .i64 t,.bool true,.int .i64 n] 126);obtain ⟨_,m0,m1,m2,m3⟩:=hb4 hp;clear h1 hh z0;obtain ⟨z0,z1,-,-,-⟩:=HR1.out.cells;have hx2:decide (1000 <= ns.length) = false:=by have:=of_decide_eq_false hx; exact decide_eq_false (by omega)
 go_wp2_with fail;refine (faulty_mak 5 p).calls0 ?_;intro w2 h2;have HR2:=lH ((HR1.out.step h2).others);have hf:=lone_heap (HR2.out.own (lone 65 W.heap.size [.int .i64 0,.int .i64 0]) (by simp));have HS2:=lH ((HR1.out.step h2).since);clear h2;go_wp2_with (refine wpList_store_row rfl 65 _ _ rfl W.heap.size (F2 5 p) (by rfl) (by rfl) _ _ hf (f2_info 5 p) rfl (f2_one 5 p) ?_)
 exact bodyPost_ret (v:=.tuple #[.int .i64 0,.agg (F2 5 p)]) (results_t_cell Tryz.results139 _ _ _ _ _ _ _ _ rfl rfl (setRow_heap _ _ _ _ _ _ hf) Tryz.underlying65 rfl (f2_info 5 p)) rfl ⟨rfl,rows_setRow (rows_drop HR2.out) _,below_setRow HS2.out hwb.out _⟩
end
end Tlv
end Go.Proofs.YtpanhhjkecebkaaGreat
