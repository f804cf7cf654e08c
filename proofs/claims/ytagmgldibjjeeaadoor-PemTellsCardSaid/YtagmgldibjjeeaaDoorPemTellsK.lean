/- The law PemTells: bytes have the signs and the text, signs and texts the bytes, that the document says, or why not; no conditions. -/
import Derived.Test.YtagmgldibjjeeaaDoorRows
import Derived.WalkKit
import Derived.ProofKit
import Derived.OpenShut
import Derived.Lib.Hide
import Derived.Test.YtagmgldibjjeeaaDoorPt22
import Derived.Test.YtagmgldibjjeeaaDoorPt7
import Derived.Test.YtagmgldibjjeeaaDoorCards
import Derived.Test.YtagmgldibjjeeaaDoorTie
import Derived.LaidMore
import Derived.SevenTiedAt
import Derived.Stop.Joined
import Derived.Lay
set_option maxRecDepth 100000
namespace Go.Proofs.YtagmgldibjjeeaaDoor.pemTells
open Go.ChangeShapes Go.WideShapes Go.ChangeAt Go.RowKit
open Pm
set_option maxHeartbeats 4000000 in
theorem big_1 (w:World) (hT:ML w) (nm b s t:ByteArray) (t1:decide ((100:Int) < (nm.size:Int)) = true):Calls Tryd.prog 3 #[.string nm,.string b,.string s,.string t] w fun x w' => x = .returned (.bool true) /\ Since w w':=by
 have HT:=lH hT
 have HS:=lH (Since.refl w)
 have c9:=Pm.awake
 clear hT
 go_enter Tryd.func3,Tryd.ntmps3
 go_wp2_with fail
 repeat (with_reducible refine c9.calls0 HT.out ?_; intro wz hz; replace HT:=lH (Kp.keep HT.out hz); replace HS:=lH (HS.out.step hz); clear hz; try go_wp2_with fail)
 go_ret
 exact ⟨rfl,HS.out⟩
set_option maxHeartbeats 4000000 in
theorem big_2 (w:World) (hT:ML w) (nm b s t:ByteArray) (t1:decide ((100:Int) < (nm.size:Int)) = false) (t2:decide ((500:Int) < (b.size:Int)) = true):Calls Tryd.prog 3 #[.string nm,.string b,.string s,.string t] w fun x w' => x = .returned (.bool true) /\ Since w w':=by
 have HT:=lH hT
 have HS:=lH (Since.refl w)
 have c9:=Pm.awake
 clear hT
 go_enter Tryd.func3,Tryd.ntmps3
 go_wp2_with fail
 repeat (with_reducible refine c9.calls0 HT.out ?_; intro wz hz; replace HT:=lH (Kp.keep HT.out hz); replace HS:=lH (HS.out.step hz); clear hz; try go_wp2_with fail)
 go_ret
 exact ⟨rfl,HS.out⟩
set_option maxHeartbeats 4000000 in
theorem big_3 (w:World) (hT:ML w) (nm b s t:ByteArray) (t1:decide ((100:Int) < (nm.size:Int)) = false) (t2:decide ((500:Int) < (b.size:Int)) = false) (t3:decide ((500:Int) < (s.size:Int)) = true):Calls Tryd.prog 3 #[.string nm,.string b,.string s,.string t] w fun x w' => x = .returned (.bool true) /\ Since w w':=by
 have HT:=lH hT
 have HS:=lH (Since.refl w)
 have c9:=Pm.awake
 clear hT
 go_enter Tryd.func3,Tryd.ntmps3
 go_wp2_with fail
 repeat (with_reducible refine c9.calls0 HT.out ?_; intro wz hz; replace HT:=lH (Kp.keep HT.out hz); replace HS:=lH (HS.out.step hz); clear hz; try go_wp2_with fail)
 go_ret
 exact ⟨rfl,HS.out⟩
set_option maxHeartbeats 4000000 in
theorem big_4 (w:World) (hT:ML w) (nm b s t:ByteArray) (t1:decide ((100:Int) < (nm.size:Int)) = false) (t2:decide ((500:Int) < (b.size:Int)) = false) (t3:decide ((500:Int) < (s.size:Int)) = false) (t4:decide ((1000:Int) < (t.size:Int)) = true):Calls Tryd.prog 3 #[.string nm,.string b,.string s,.string t] w fun x w' => x = .returned (.bool true) /\ Since w w':=by
 have HT:=lH hT
 have HS:=lH (Since.refl w)
 have c9:=Pm.awake
 clear hT
 go_enter Tryd.func3,Tryd.ntmps3
 go_wp2_with fail
 repeat (with_reducible refine c9.calls0 HT.out ?_; intro wz hz; replace HT:=lH (Kp.keep HT.out hz); replace HS:=lH (HS.out.step hz); clear hz; try go_wp2_with fail)
 go_ret
 exact ⟨rfl,HS.out⟩
set_option maxHeartbeats 8000000 in
theorem core_1 (w:World) (hT:ML w) (nm b s t X x a n u:ByteArray) (ok:Bool) (e g:Int) (l1:nm.size <= 100) (l2:b.size <= 500) (l3:s.size <= 500) (l4:t.size <= 1000)
   (c1:Mak 6 #[.string s] (.tuple #[.string x,.bool ok])) (c2:Mak 7 #[.string s] (.tuple #[.string x,.bool ok]))
   (c3:Mak 8 #[.string nm,.string b] (.tuple #[.string a,.int .i64 e])) (c4:Mak 9 #[.string nm,.string b] (.tuple #[.string a,.int .i64 e]))
   (c5:KMk ML 10 #[.string t] (.tuple #[.string n,.string u,.int .i64 g])) (c6:Mak 11 #[.string t] (.tuple #[.string n,.string u,.int .i64 g]))
   (c7:Mak 12 #[.string b] (.string X)) (c8:Mak 13 #[.string b] (.string X)) :
   Calls Tryd.prog 3 #[.string nm,.string b,.string s,.string t] w fun x w' => x = .returned (.bool true) /\ Since w w':=by
 have HT:=lH hT
 have HS:=lH (Since.refl w)
 have t1:decide ((100:Int) < (nm.size:Int)) = false:=decide_eq_false (by omega)
 have t2:decide ((500:Int) < (b.size:Int)) = false:=decide_eq_false (by omega)
 have t3:decide ((500:Int) < (s.size:Int)) = false:=decide_eq_false (by omega)
 have t4:decide ((1000:Int) < (t.size:Int)) = false:=decide_eq_false (by omega)
 have qb:(X.toList == X.toList) = true:=beq_self_eq_true _
 have qs:(x.toList == x.toList) = true:=beq_self_eq_true _
 have qn:(n.toList == n.toList) = true:=beq_self_eq_true _
 have qt:(u.toList == u.toList) = true:=beq_self_eq_true _
 have qa:(a.toList == a.toList) = true:=beq_self_eq_true _
 have qe:(e == e) = true:=beq_self_eq_true _
 have qg:(g == g) = true:=beq_self_eq_true _
 have qk:(ok == ok) = true:=beq_self_eq_true _
 have c9:=Pm.awake
 clear hT l1 l2 l3 l4
 go_enter Tryd.func3,Tryd.ntmps3
 go_wp2_with fail
 repeat ((first | with_reducible refine c1.calls0 ?_ | with_reducible refine c2.calls0 ?_ | with_reducible refine c3.calls0 ?_ | with_reducible refine c4.calls0 ?_ | with_reducible refine c5.calls0 HT.out ?_ | with_reducible refine c6.calls0 ?_ | with_reducible refine c7.calls0 ?_ | with_reducible refine c8.calls0 ?_ | with_reducible refine c9.calls0 HT.out ?_); intro wz hz; replace HT:=lH (Kp.keep HT.out hz); replace HS:=lH (HS.out.step hz); clear hz; try go_wp2_with fail)
 go_ret
 exact ⟨rfl,HS.out⟩
theorem core (w:World) (hT:ML w) (nm b s t:ByteArray) (l1:nm.size <= 100) (l2:b.size <= 500) (l3:s.size <= 500) (l4:t.size <= 1000) :
   Calls Tryd.prog 3 #[.string nm,.string b,.string s,.string t] w fun x w' => x = .returned (.bool true) /\ Since w w' :=
 core_1 w hT nm b s t _ _ _ _ _ _ _ _ l1 l2 l3 l4 (unbase_mk s (by omega)) (runbase_mk s (by omega)) (armor_mk nm b (by omega)) (rarmor_mk nm b (by omega)) (unar_mk t (by omega)) (runar_mk t (by omega)) (base_mk b (by omega)) (rbase_mk b (by omega))
theorem walk (nm b s t:ByteArray) (_w0:nm.size <= maxLen) (_w1:b.size <= maxLen) (_w2:s.size <= maxLen) (_w3:t.size <= maxLen) (w:World) (hT:ML w) :
   Calls Tryd.prog 3 #[.string nm,.string b,.string s,.string t] w fun e w' => e = .returned (.bool true) /\ Below w.heap.size w w':=by
 by_cases l1:100 < nm.size
 · exact big_1 w hT nm b s t (decide_eq_true (by omega))
 have t1:decide ((100:Int) < (nm.size:Int)) = false:=decide_eq_false (by omega)
 by_cases l2:500 < b.size
 · exact big_2 w hT nm b s t t1 (decide_eq_true (by omega))
 have t2:decide ((500:Int) < (b.size:Int)) = false:=decide_eq_false (by omega)
 by_cases l3:500 < s.size
 · exact big_3 w hT nm b s t t1 t2 (decide_eq_true (by omega))
 have t3:decide ((500:Int) < (s.size:Int)) = false:=decide_eq_false (by omega)
 by_cases l4:1000 < t.size
 · exact big_4 w hT nm b s t t1 t2 t3 (decide_eq_true (by omega))
 exact core w hT nm b s t (by omega) (by omega) (by omega) (by omega)
theorem own:ownKnob Tryd.prog.godebug = none:=by kernel_rfl
def laidL : List (String × DataW Unit) := [("unicode/utf8.acceptRanges", Rows.laid_unicode_utf8_acceptRanges), ("unicode/utf8.first", Rows.laid_unicode_utf8_first)]
theorem lifted (os:Os) (started:os.Started) (H:Type) (enc:TypeId × Value -> H) :
   ReturnsInHanded {} Tryd.checked os 3 .any (fun w args => (Rows.pemTellsSpec.pre enc Tryd.prog Tryd.f3 [] false w args /\ laidMetH Tryd.prog laidL w) /\ sizedMet enc Tryd.prog Tryd.f3 (OpenSpec.ofChange Rows.pemTellsSpec) false w args)
     (Rows.pemTellsSpec.post enc Tryd.prog Tryd.f3 false true false false):=by
 refine handed_and_shaped (C:=Tryd.checked) (X:=fun w _ => laidMetH Tryd.prog laidL w) (fun _ _ _ hh h => h.of_heap hh) own started (by kernel_rfl) Tryd.func3
   (ChangeSpec.witness_shaped (enc:=enc) (C:=Tryd.checked) (os:=os) (X:=fun w _ => laidMetH Tryd.prog laidL w) false (World.laidAll Tryd.prog os laidL) #[.string ⟨#[]⟩,.string ⟨#[]⟩,.string ⟨#[]⟩,.string ⟨#[]⟩] 8 (World.laidAll_os _ _ _) (World.shaped_of_ZipB (by kernel_rfl) (by kernel_rfl)) (by kernel_rfl) (by kernel_rfl) (by kernel_rfl) (by rw [MakeChecks.laidMetH_plain _ _ _ (by kernel_rfl)]; exact laidMet_laidAll _ (by kernel_rfl) (by kernel_rfl))) ?_
 intro W base args ds gs before hval0 hW hsh _
 have hval:∀ (j:Nat) t v,Tryd.f3.params[j]? = some t -> args[j]? = some v -> Value.okWide Tryd.prog W .any base t v:=hval0
 have hW':=hW
 obtain ⟨p,q,hA0,hV,rfl,hfz,hnd⟩:=hW
 have hA:DataW.TrodAll enc Tryd.prog W 0 (fun _ => true) true Tryd.f3.params.toList args.toList ds p:=hA0
 rw [Tryd.params3] at hA hval
 obtain ⟨v0,vs0,d0,ds0,p0,q0,hargs,rfl,rfl,h0,r0⟩:=trodAll_cons hA
 obtain ⟨v1,vs1,d1,ds1,p1,q1,rfl,rfl,rfl,h1,r1⟩:=trodAll_cons r0
 obtain ⟨v2,vs2,d2,ds2,p2,q2,rfl,rfl,rfl,h2,r2⟩:=trodAll_cons r1
 obtain ⟨v3,vs3,d3,ds3,p3,q3,rfl,rfl,rfl,h3,r3⟩:=trodAll_cons r2
 obtain ⟨rfl,rfl,rfl⟩:=trodAll_nil r3
 obtain rfl:args = #[v0,v1,v2,v3]:=by cases args; simp_all
 obtain ⟨rfl,rfl⟩:=trodVars_none hV
 obtain ⟨a0,rfl,rfl,rfl,w0⟩:=Go.ChangeMaps.open_string Tryd.underlying9 (hval 0 9 v0 rfl rfl) h0
 obtain ⟨a1,rfl,rfl,rfl,w1⟩:=Go.ChangeMaps.open_string Tryd.underlying9 (hval 1 9 v1 rfl rfl) h1
 obtain ⟨a2,rfl,rfl,rfl,w2⟩:=Go.ChangeMaps.open_string Tryd.underlying9 (hval 2 9 v2 rfl rfl) h2
 obtain ⟨a3,rfl,rfl,rfl,w3⟩:=Go.ChangeMaps.open_string Tryd.underlying9 (hval 3 9 v3 rfl rfl) h3
 clear hA0 hval0
 simp only [List.append_nil] at hW'
 refine (walk a0 a1 a2 a3 w0 w1 w2 w3 W (Pm.ml_of hsh)).mono fun e W' ⟨he,hg⟩ => ?_
 subst he
 exact ⟨_,rfl,_,_,_,_,_,[],hW',(trodAll_cons_mk (shut_bool Tryd.underlying4 _) trodAll_mk0),(trodAll_cons_mk (Go.ChangeMaps.shut_string Tryd.underlying9 w0) (trodAll_cons_mk (Go.ChangeMaps.shut_string Tryd.underlying9 w1) (trodAll_cons_mk (Go.ChangeMaps.shut_string Tryd.underlying9 w2) (trodAll_cons_mk (Go.ChangeMaps.shut_string Tryd.underlying9 w3) trodAll_mk0)))),rfl,hg.frame _,fun h => by cases h⟩
theorem over:Rows.pemTellsRow.holds Tryd.pinned (OpenSpec.ofChange Rows.pemTellsSpec) :=
 OpenClaim.holds_of_wide 3 Tryd.f3 rfl rfl rfl rfl rfl rfl rfl ⟨rfl,rfl,rfl,rfl,rfl⟩ rfl rfl rfl rfl rfl (by kernel_rfl) Tryd.func3 (by kernel_rfl)
   (of_decide_eq_true (by kernel_rfl)) (by unfold Func.isWrapper; first | (rw [if_pos (by decide +kernel)]; kernel_rfl) | (rw [if_neg (by decide +kernel)]; exact ⟨rfl,rfl⟩))
   (fun os started H enc _ => lifted os started H enc)
theorem proved:Rows.PemTellsCardSaid :=
 Claim7.holds_tied_plain_at .later [] [.data,.pinned] true Rows.pemTellsCard.stood.harness false
   over (fun _ h => by cases h) (by kernel_rfl) (fun _ h => by cases h) pemTells_row_tie rfl ⟨rfl,rfl⟩ (by kernel_rfl) rfl
   (fun f fn hf hfn => by
     obtain rfl : f = 3 := Option.some.inj ((show Tryd.prog.funcNamed "claviger/clavigerlaw46.PemTells" = some 3 by kernel_rfl).symm.trans hf) |>.symm
     obtain rfl:fn = Tryd.f3:=(Option.some.inj (Tryd.func3.symm.trans hfn)).symm
     exact ⟨by kernel_rfl,fun j t ht => by
       rw [Tryd.params3] at ht
       have hm:t ∈ [9,9,9,9]:=by simpa using Array.mem_of_getElem? ht
       have hall:([9,9,9,9].all fun u => !Tryd.prog.wantsStandIn u) = true:=by kernel_rfl
       exact (show Tryd.prog.wantsStandIn t = false by simpa using List.all_eq_true.1 hall t hm)⟩)
   (by kernel_rfl)
end Go.Proofs.YtagmgldibjjeeaaDoor.pemTells
