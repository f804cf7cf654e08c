import Derived.Test.YtpanhhjkecebkaaGreatPt10
import Derived.Lib.SmallJoins
set_option maxRecDepth 100000
namespace Go.Proofs.YtpanhhjkecebkaaGreat
open Go.RowKit
namespace Pk
theorem info_arg {H:Type} {enc:TypeId × Value -> H} {w:World} {sp:Nat -> Bool} {held:Bool} {r:Reach} {b0:Nat} {x:Value} {d:DataW H} {pl:List MemPlace}
   (hv:Value.okWide Tryz.prog w r b0 46 x) (h:DataW.Trod enc Tryz.prog w 0 sp held 46 x d pl) (hlt:∀ x ∈ pl,x.block < w.heap.size) :
   ∃ A n c xs B m e ps key attrs,x = .agg #[.slice A n c,.slice B m e,.string key,.string attrs] /\ IntsS w (.slice A n c) xs /\ n = xs.length /\ (∀ x ∈ xs,(Lit.int .i64 x).wf = true) /\ IntsS w (.slice B m e) ps /\ m = ps.length /\ (∀ x ∈ ps,(Lit.int .i64 x).wf = true) /\ key.size <= maxLen /\ attrs.size <= maxLen:=by
 obtain ⟨cs,rfl,hsz⟩:=Go.WideShapes.okWide_struct Tryz.underlying46 hv;have c4:Tryz.prog.cellsOf 46 = 4:=by kernel_rfl
 have ci:Tryz.prog.cellsOf 44 = 1:=by kernel_rfl
 have cs1:Tryz.prog.cellsOf 9 = 1:=by kernel_rfl
 rw [c4] at hsz;obtain ⟨a0,a1,a2,a3,rfl⟩:=Go.Joins.array4 hsz;obtain ⟨fuel,hf⟩:=h;simp only [Value.cells] at hf;obtain ⟨y0,y1,y2,y3,q,hps,_,h0,h1,h2,h3⟩:=Go.Joins.trod_struct4 Tryz.underlying46 hf;dsimp only at h0 h1 h2 h3;rw [ci] at h0 h1;rw [cs1] at h2 h3;obtain ⟨key,e2,_,w2⟩:=DataW.trod_string Tryz.underlying9 h2;obtain ⟨attrs,e3,_,w3⟩:=DataW.trod_string Tryz.underlying9 h3;simp at e2 e3;subst e2 e3;have h0':DataW.trod enc Tryz.prog w 0 sp held q 44 [a0] = some y0:=by simpa using h0
 have h1':DataW.trod enc Tryz.prog w 0 sp held q 44 [a1] = some y1:=by simpa using h1
 obtain ⟨A,n,c,rfl⟩:∃ A n c,a0 = .slice A n c:=by
   rcases Go.Deep.open_slice Tryz.underlying44 h0' with ⟨hcs,_⟩ | ⟨a,len,cap,m,q,D,Pl,hcs,_⟩
   · exact ⟨none,0,0,by simpa using hcs⟩
   · exact ⟨_,_,_,by simpa using hcs⟩
 obtain ⟨B,m,e,rfl⟩:∃ A n c,a1 = .slice A n c:=by
   rcases Go.Deep.open_slice Tryz.underlying44 h1' with ⟨hcs,_⟩ | ⟨a,len,cap,m,q,D,Pl,hcs,_⟩
   · exact ⟨none,0,0,by simpa using hcs⟩
   · exact ⟨_,_,_,by simpa using hcs⟩
 have hp2:=(Prod.mk.inj hps).2;obtain ⟨xs,l1,l2,l3⟩:=ints_arg Tryz.underlying44 Tryz.underlying3 (by kernel_rfl) h0' (fun x hx => hlt x (by rw [hp2]; simp [hx]));obtain ⟨ps,m1,m2,m3⟩:=ints_arg Tryz.underlying44 Tryz.underlying3 (by kernel_rfl) h1' (fun x hx => hlt x (by rw [hp2]; simp [hx]));exact ⟨A,n,c,xs,B,m,e,ps,key,attrs,rfl,l1,l2,l3,m1,m2,m3,w2,w3⟩
end Pk
end Go.Proofs.YtpanhhjkecebkaaGreat
