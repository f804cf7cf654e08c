import Derived.Test.YtfnmakelbijmkaaDoorRt17
import Derived.Test.YtfnmakelbijmkaaDoorRt33
set_option maxRecDepth 100000
namespace Go.Proofs.YtfnmakelbijmkaaDoor
open Go.RowKit
namespace Rec
open Att
theorem att_cells {H:Type} {enc:TypeId × Value -> H} {w:World} {sp:Nat -> Bool} {held:Bool} {m:Nat} {cs:List Value} {z:DataW H × List MemPlace} (h:DataW.trod enc Tryd.prog w 0 sp held m 38 cs = some z) :
   ∃ p:A2,cs = ac p /\ (Lit.int .i64 p.1).wf = true /\ p.2.size <= maxLen:=by
 obtain ⟨y0,y1,n,_,hl,h0,h1⟩:=Go.ChangeShapes.trod_struct2 Tryd.underlying38 h
 have hC:Tryd.prog.cellsOf 38 = 2:=by kernel_rfl
 have hc:Tryd.prog.cellsOf 9 = 1:=by kernel_rfl
 have hci:Tryd.prog.cellsOf 3 = 1:=by kernel_rfl
 rw [hC] at hl
 match cs,hl with
 | [u,v],_ =>
   dsimp only at h0 h1
   rw [hci] at h0
   rw [hc] at h1
   obtain ⟨x,e0,_,w0⟩:=DataW.trod_int Tryd.underlying3 h0
   obtain ⟨y,e1,_,w1⟩:=DataW.trod_string Tryd.underlying9 h1
   simp at e0 e1
   subst e0 e1
   exact ⟨(x,y),rfl,w0,w1⟩
theorem atts_arg {H:Type} {enc:TypeId × Value -> H} {w:World} {sp:Nat -> Bool} {held:Bool} {fuel:Nat} {A:Option Addr} {n c:Nat} {d:DataW H} {ps:List MemPlace}
   (hf:DataW.trod enc Tryd.prog w 0 sp held fuel 22 [.slice A n c] = some (d,ps)) (hlt:∀ x ∈ ps,x.block < w.heap.size) :
   ∃ l:List A2,AttsS w (.slice A n c) l /\ n = l.length /\ ∀ p ∈ l,(Lit.int .i64 p.1).wf = true /\ p.2.size <= maxLen:=by
 obtain ⟨l,h1,h2,h3⟩:=arg_elems (k:=2) ac (fun p => (Lit.int .i64 p.1).wf = true /\ p.2.size <= maxLen) Tryd.underlying22 (by kernel_rfl) (by decide) (fun _ => rfl)
   (fun m cs z hz _ _ => att_cells hz) hf hlt
 refine ⟨l, ?_,h1,h3⟩
 subst h1
 exact h2
theorem record_arg {H:Type} {enc:TypeId × Value -> H} {w:World} {sp:Nat -> Bool} {held:Bool} {r:Reach} {b0:Nat} {x:Value} {d:DataW H} {ps:List MemPlace}
   (hv:Value.okWide Tryd.prog w r b0 26 x) (h:DataW.Trod enc Tryd.prog w 0 sp held 26 x d ps) (hlt:∀ x ∈ ps,x.block < w.heap.size) :
   ∃ K k A n c L u m v e,x = .agg #[.int .i64 K,.string k,.slice A n c,.string u,.string m,.string v,.string e] /\ (Lit.int .i64 K).wf = true /\ k.size <= maxLen /\ AttsS w (.slice A n c) L /\ n = L.length /\ (∀ p ∈ L,(Lit.int .i64 p.1).wf = true /\ p.2.size <= maxLen) /\ u.size <= maxLen /\ m.size <= maxLen /\ v.size <= maxLen /\ e.size <= maxLen:=by
 obtain ⟨cs,rfl,hsz⟩:=Go.WideShapes.okWide_struct Tryd.underlying26 hv
 have c7:Tryd.prog.cellsOf 26 = 7:=by kernel_rfl
 have c4:Tryd.prog.cellsOf 24 = 4:=by kernel_rfl
 have ci:Tryd.prog.cellsOf 3 = 1:=by kernel_rfl
 have cs1:Tryd.prog.cellsOf 9 = 1:=by kernel_rfl
 have cl1:Tryd.prog.cellsOf 22 = 1:=by kernel_rfl
 rw [c7] at hsz
 obtain ⟨a0,a1,a2,a3,a4,a5,a6,rfl⟩:∃ a0 a1 a2 a3 a4 a5 a6,cs = #[a0,a1,a2,a3,a4,a5,a6]:=by
   obtain ⟨l⟩:=cs
   match l,hsz with
   | [a0,a1,a2,a3,a4,a5,a6],_ => exact ⟨a0,a1,a2,a3,a4,a5,a6,rfl⟩
 obtain ⟨fuel,hf⟩:=h
 simp only [Value.cells] at hf
 obtain ⟨y0,y1,y2,y3,q,hps,_,h0,h1,h2,h3⟩:=Go.Joins.trod_struct4 Tryd.underlying26 hf
 dsimp only at h0 h1 h2 h3
 rw [ci] at h0
 rw [cs1] at h1
 rw [cl1] at h2
 rw [c4] at h3
 obtain ⟨z0,z1,z2,z3,q',_,_,k0,k1,k2,k3⟩:=Go.Joins.trod_struct4 Tryd.underlying24 h3
 dsimp only at k0 k1 k2 k3
 rw [cs1] at k0 k1 k2 k3
 obtain ⟨K,e0,_,w0⟩:=DataW.trod_int Tryd.underlying3 h0
 obtain ⟨k,e1,_,w1⟩:=DataW.trod_string Tryd.underlying9 h1
 obtain ⟨u,e3,_,w3⟩:=DataW.trod_string Tryd.underlying9 k0
 obtain ⟨m,e4,_,w4⟩:=DataW.trod_string Tryd.underlying9 k1
 obtain ⟨v,e5,_,w5⟩:=DataW.trod_string Tryd.underlying9 k2
 obtain ⟨e,e6,_,w6⟩:=DataW.trod_string Tryd.underlying9 k3
 simp at e0 e1 e3 e4 e5 e6
 subst e0 e1 e3 e4 e5 e6
 have h2':DataW.trod enc Tryd.prog w 0 sp held q 22 [a2] = some y2:=by simpa using h2
 obtain ⟨A,n,c,rfl⟩:∃ A n c,a2 = .slice A n c:=by
   rcases Go.Deep.open_slice Tryd.underlying22 h2' with ⟨hcs,_⟩ | ⟨a,len,cap,m,q,D,Pl,hcs,_⟩
   · exact ⟨none,0,0,by simpa using hcs⟩
   · exact ⟨_,_,_,by simpa using hcs⟩
 obtain ⟨L,l1,l2,l3⟩:=atts_arg h2' (fun x hx => hlt x (by rw [(Prod.mk.inj hps).2]; simp [hx]))
 exact ⟨K,k,A,n,c,L,u,m,v,e,rfl,w0,w1,l1,l2,l3,w3,w4,w5,w6⟩
end Rec
namespace Atf
open Att
def KN (g:Nat) (t:Int) (w:World):Prop:=w.cell? ⟨g,0,none⟩ = some (.int .i64 t) /\ g < w.heap.size
instance (g:Nat) (t:Int):Kp (KN g t):=⟨fun h hb => ⟨(hb.cell (p:=⟨g,0,none⟩) h.2).trans h.1,Nat.lt_of_lt_of_le h.2 hb.size⟩⟩
end Atf
namespace Atf
open Att
end Atf
end Go.Proofs.YtfnmakelbijmkaaDoor
