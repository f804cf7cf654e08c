import Derived.Test.YtddlaafpianjbaaGreatDoorBo46
set_option maxRecDepth 100000
namespace Go.Proofs.YtddlaafpianjbaaGreatDoor
open Go.RowKit
namespace Block
open Att
def k0:ByteArray:=⟨#[48,49,50,51,52,53,54,55,56,57,97,98,99,100,101,102]⟩
def q0:ByteArray:=⟨#[102,101,100,99,98,97,57,56,55,54,53,52,51,50,49,48]⟩
def p0:ByteArray:=⟨#[80,65,68,80,65,68,80,65,68,80,65,68,80,65,68,80,65,68,80,65,68,80,65,68,80,65,68,80,65,68]⟩
def u0:ByteArray:=⟨#[75,48]⟩
def m0:ByteArray:=⟨#[66]⟩
def v0:ByteArray:=⟨#[48,48]⟩
def e0:ByteArray:=⟨#[69]⟩
def h0:ByteArray:=⟨#[68,48,49,52,52,75,48,65,66,48,48,69,48,48,48,48]⟩
theorem results_rec {P:Program} {fn:Func} {p:Tmp} {ty:TypeId} (h:fn.results = #[.cell p ty]) (tmps:Array Value) (w:World) (g:Nat) (t:TypeId) (cs:Array Value) (fr:Nat × Nat) (d:TypeDesc)
   (hp:tmps.getD p undef = .pointer (some ⟨g,0,none⟩)) (hg:w.heap[g]? = some (.cells cs t fr))
   (hu:P.underlying ty = some d) (hd:(match d with | .struct _ | .array _ _ => true | _ => false) = true) (hi:(P.info? ty).map (·.size) = some cs.size) :
   (results fn tmps).run P w = .ok (.agg cs) w:=by
 have hp':tmps[p]?.getD undef = .pointer (some ⟨g,0,none⟩):=by simpa using hp
 simp [results,h,hp',asAddr,run_loadVar_row w g t ty cs fr d hg hu hd hi]
theorem full_mak:Mak 22 #[] (.agg (R7 1 k0 u0 m0 v0 e0 (.slice none 0 0))):=by
 intro w
 have hr:=lH (show HR w w.heap.size Z7 26 (w.alloc (.cells Z7 26)) from ⟨heap_alloc_new w _⟩)
 have HS:=lH (Since.alloc (Since.refl w) (.cells Z7 26))
 unfold Z7 at hr HS
 have r1:=hr.out.row
 go_enter Tryz.func22,Tryz.ntmps22
 go_wp2_with (refine wpList_store_row rfl 26 _ _ rfl w.heap.size (R7 1 k0 u0 m0 v0 e0 (.slice none 0 0)) (by rfl) (by rfl) _ _ r1 (r7_info _ _ _ _ _ _ _) rfl (r7_one _ _ _ _ _ _ _ _ _) ?_)
 exact bodyPost_ret (v:=.agg (R7 1 k0 u0 m0 v0 e0 (.slice none 0 0))) (results_rec Tryz.results22 _ _ _ _ _ _ _ rfl (setRow_heap _ _ _ _ _ _ r1) Tryz.underlying26 rfl (r7_info _ _ _ _ _ _ _)) rfl ⟨rfl,below_setRow HS.out (Nat.le_refl _) _⟩
set_option maxHeartbeats 8000000 in
theorem awake_core (J:ByteArray) (t1:((J.size:Int) == 144) = true) (t2:((J.extract 0 16).toList == [68,48,49,52,52,75,48,65,66,48,48,69,48,48,48,48]) = true) (i1:(16:Int) <= (J.size:Int)) (c1:RdE 8 q0 p0 1 k0 u0 m0 v0 e0 [] (.tuple #[.string J,.int .i64 0]))
   (c2:ImO 10 q0 J 1 k0 u0 m0 v0 e0 [] p0) (c3:RdB 13 [] (fun x => #[rv 1 k0 u0 m0 v0 e0 x]) (.int .i64 144)) (c4:AlkT 1 k0 u0 m0 v0 e0 []):KMk K3 7 #[] (.bool true):=by
 intro w hT
 have cf:=full_mak
 have HS:=lH (Since.refl w)
 have HT:=lH hT
 unfold R7 at cf
 unfold RdE at c1
 unfold k0 q0 p0 u0 m0 v0 e0 at *
 clear hT
 go_enter Tryz.func7,Tryz.ntmps7
 go_wp2_with fail
 refine cf.calls0 ?_
 intro w1 h1
 replace HS:=lH (HS.out.step h1)
 replace HT:=lH (Kp.keep HT.out h1)
 clear h1
 go_wp2_with fail
 refine c1.calls0 HT.out (AttsS.nil _) ?_
 intro w2 h2
 replace HS:=lH (HS.out.step h2)
 replace HT:=lH (Kp.keep HT.out h2)
 clear h2
 go_wp2_with fail
 refine (c2 _ HT.out).mono ?_
 rintro x w3 ⟨a,rfl,ha,h3⟩
 replace HS:=lH (HS.out.step h3)
 replace HT:=lH (Kp.keep HT.out h3)
 obtain ⟨A,q,hxe,-,-⟩:=ha.slice
 replace hxe:a = .slice A 0 q:=hxe
 subst hxe
 have hp:=lH (bx_new (K:=1) (k:=⟨#[48,49,50,51,52,53,54,55,56,57,97,98,99,100,101,102]⟩) (u:=⟨#[75,48]⟩) (m:=⟨#[66]⟩) (v:=⟨#[48,48]⟩) (e:=⟨#[69]⟩) HT.out ha)
 unfold R7
 clear h3 ha HT c1 c2
 go_wp2_with fail
 obtain ⟨_,m0,m1,m2,m3,m4,m5,m6⟩:=bx7 hp
 go_region_held3 (fun W' => Hid (BX w3 w3.heap.size 1 ⟨#[48,49,50,51,52,53,54,55,56,57,97,98,99,100,101,102]⟩ ⟨#[75,48]⟩ ⟨#[66]⟩ ⟨#[48,48]⟩ ⟨#[69]⟩ (.slice A 0 q) ([]:List A2) W') /\ W'.cell? ⟨w3.heap.size,0,none⟩ = some (.int .i64 1) /\ W'.cell? ⟨w3.heap.size,1,none⟩ = some (.string ⟨#[48,49,50,51,52,53,54,55,56,57,97,98,99,100,101,102]⟩) /\ W'.cell? ⟨w3.heap.size,2,none⟩ = some (.slice A 0 q) /\ W'.cell? ⟨w3.heap.size,3,none⟩ = some (.string ⟨#[75,48]⟩) /\ W'.cell? ⟨w3.heap.size,4,none⟩ = some (.string ⟨#[66]⟩) /\ W'.cell? ⟨w3.heap.size,5,none⟩ = some (.string ⟨#[48,48]⟩) /\ W'.cell? ⟨w3.heap.size,6,none⟩ = some (.string ⟨#[69]⟩))
   (first | exact bx7 (by assumption) | exact bx7 (bxdrew (by assumption)))
   (first
     | (go_at_call 22; refine cf.calls0 ?_; intro w4 h4; have hp4:=bxstep h4 (by first | assumption | exact bxdrew (by assumption)); clear h4)
     | (go_at_call 12; refine c4.calls0 (Hid.out (by first | assumption | exact bxdrew (by assumption)):BX w3 w3.heap.size 1 ⟨#[48,49,50,51,52,53,54,55,56,57,97,98,99,100,101,102]⟩ ⟨#[75,48]⟩ ⟨#[66]⟩ ⟨#[48,48]⟩ ⟨#[69]⟩ (.slice A 0 q) ([]:List A2) _).atts (AttsS.nil _) ?_; intro w5 h5; have hp5:=bxstep h5 (by first | assumption | exact bxdrew (by assumption)); clear h5)
     | (go_at_call 13; refine c3.calls0 (Hid.out (by first | assumption | exact bxdrew (by assumption)):BX w3 w3.heap.size 1 ⟨#[48,49,50,51,52,53,54,55,56,57,97,98,99,100,101,102]⟩ ⟨#[75,48]⟩ ⟨#[66]⟩ ⟨#[48,48]⟩ ⟨#[69]⟩ (.slice A 0 q) ([]:List A2) _).hb.tabs (AttsS.nil _) ?_; intro w6 h6; have hp6:=bxstep h6 (by first | assumption | exact bxdrew (by assumption)); clear h6))
 all_goals
   clear m0 m1 m2 m3 m4 m5 m6
   go_wp2_with fail
   go_ret
   exact ⟨rfl,HS.out.step hp6.out.hb.since⟩
theorem aw_e:expE q0 1 k0 u0 m0 v0 e0 [] p0 = 0:=by decide +kernel
theorem aw_h:topV 1 u0 m0 v0 e0 [] = h0:=by decide +kernel
theorem aw_s:sizI 1 k0 u0 m0 v0 e0 [] = 144:=by decide +kernel
theorem awake_k:KMk K3 7 #[] (.bool true):=by
 obtain ⟨J,hJ⟩:∃ J,J = expX q0 1 k0 u0 m0 v0 e0 [] p0:=⟨_,rfl⟩
 have hB:=back_of aw_e J hJ
 have c1:=export_b q0 p0 1 k0 u0 m0 v0 e0 [] (by decide) (by decide) (by decide) (by decide)
 rw [<- hJ,aw_e] at c1
 have c2:=import_back q0 1 k0 u0 m0 v0 e0 p0 [] aw_e (by decide) J hJ
 have c3:=size_b 1 k0 u0 m0 v0 e0 [] (by decide) (by decide)
 rw [aw_s] at c3
 have hs:=hB.siz
 rw [aw_s] at hs
 have hx:J.extract 0 16 = h0:=by
   rw [hJ,exp_val aw_e]
   unfold Frame.joinX
   refine Opt.ext_pre _ h0 (bs (Dig.hexL (Seal.cipK q0 (topV 1 u0 m0 v0 e0 []) (Load.PLD k0 p0)).data.toList) ++ bs (Dig.hexL (Seal.bindK q0 (topV 1 u0 m0 v0 e0 []) (Load.PLD k0 p0)).data.toList)) ?_ 16 (by decide)
   rw [Opt.app_assoc,aw_h]
 exact awake_core J (by rw [beq_iff_eq]; exact hs) (by rw [hx,toList_d]; rfl) (by omega) c1 c2 c3 (alike_t _ _ _ _ _ _ _)
end Block
end Go.Proofs.YtddlaafpianjbaaGreatDoor
