import Derived.Test.YtddlaafpianjbaaGreatDoorBo29
import Derived.RangeFuncNested
set_option maxRecDepth 100000
namespace Go.Proofs.YtddlaafpianjbaaGreatDoor
open Go.RowKit
namespace Opn
open Rnd Aes Cmac Kdf Der Cbc Seal
def cipOk (c t:ByteArray):Prop:=payOk c /\ t.size = 16
instance (c t:ByteArray):Decidable (cipOk c t):=by unfold cipOk; infer_instance
def plain (key c t:ByteArray):ByteArray:=decC (derK key 0) t c
def good (key top c t:ByteArray):Prop:=bindK key top (plain key c t) = t
instance (key top c t:ByteArray):Decidable (good key top c t):=by unfold good; infer_instance
theorem plain_size (key c t:ByteArray) (h:cipOk c t):(plain key c t).size = c.size:=by
 obtain ⟨⟨h1,h2⟩,h3⟩:=h
 have hl:c.data.toList.length = c.size:=rfl
 unfold plain decC
 rw [size_bs,chainD_len _ (decK_size _) _ h3 _ _ (by omega)]; omega
theorem Boxed_since {w w':World} {B:Nat} {t:TypeId} {v:Value} (h:Boxed w B t v) (hs:Below w.heap.size w w'):Boxed w' B t v:=(hs.block B h.lt).trans h
theorem d_true (r p:Addr) (w:World) (hr:w.cell? r = some (.bool true)):CallsD Tryz.prog 72 #[.pointer (some r),.pointer (some p)] .returning w fun e u' w' => u' = .returning /\ (e = .returned (.tuple #[]) /\ w' = w):=by
 go_enter_d Tryz.func72,Tryz.ntmps72
 go_wp2
 go_end0
 exact ⟨rfl,rfl⟩
theorem d_false (r p:Addr) (s:ByteArray) (w:World) (hr:w.cell? r = some (.bool false)) (hp:w.cell? p = some (.string s)) (hf:w.frozen? p = false):CallsD Tryz.prog 72 #[.pointer (some r),.pointer (some p)] .returning w fun e u' w' => u' = .returning /\ (e = .returned (.tuple #[]) /\ w' = w.setCell p (.string ⟨#[]⟩)):=by
 go_enter_d Tryz.func72,Tryz.ntmps72
 go_wp2
 go_end0
 exact ⟨rfl,rfl⟩
theorem res_run {fn:Func} {tmps:Array Value} {p:Nat} {x:Value} {e:Int} {w:World} (hp:Boxed w p 9 x) (hres:fn.results = #[.cell 8 9,.tmp 9]) (h8:tmps.getD 8 undef = .pointer (some ⟨p,0,none⟩)) (h9:tmps.getD 9 undef = .int .i64 e) :
   (results fn tmps).run Tryz.prog w = .ok (.tuple #[x,.int .i64 e]) w:=by
 rw [results_cell_tmp hres,h8,h9]
 have hc:=hp.cell
 have hl:(loadVar 9 ⟨p,0,none⟩).run Tryz.prog w = .ok x w:=by
   simp [loadVar,go_sem,hc]
 show ((loadVar 9 ⟨p,0,none⟩).run Tryz.prog w).andThen _ = _
 rw [hl]
 rfl
theorem door_false {fn:Func} {tmps:Array Value} {t:TypeId} {p r:Nat} {s:ByteArray} {e:Int} {W w:World} {fv:Fn} {cap:Array Value} (hs:Since W w) (hp0:W.heap.size <= p) (hp:Boxed w p 9 (.string s)) (hr:Boxed w r t (.bool false))
   (hinv:(invoke (.fn fv cap) #[]).run Tryz.prog w = .ok (.enter 72 #[.pointer (some ⟨r,0,none⟩),.pointer (some ⟨p,0,none⟩)]) w)
   (hres:fn.results = #[.cell 8 9,.tmp 9]) (h8:tmps.getD 8 undef = .pointer (some ⟨p,0,none⟩)) (h9:tmps.getD 9 undef = .int .i64 e) :
   Leaves Tryz.prog fn tmps (fun x w' => x = .returned (.tuple #[.string ⟨#[]⟩,.int .i64 e]) /\ Since W w') [{ target:=.fn fv cap,args:=#[] }] .returning w:=by
 refine leaves_cons (by simp) hinv ?_
 refine (d_false ⟨r,0,none⟩ ⟨p,0,none⟩ s w hr.cell hp.cell hp.frozen).mono ?_
 rintro x u' w'' ⟨rfl,rfl,rfl⟩
 exact ⟨_,res_run (hp.set (.string ⟨#[]⟩)) hres h8 h9,rfl,Below.setCell (p:=⟨p,0,none⟩) hs hp0 _⟩
theorem door_true {fn:Func} {tmps:Array Value} {t:TypeId} {p r:Nat} {s:ByteArray} {e:Int} {W w:World} {fv:Fn} {cap:Array Value} (hs:Since W w) (hp:Boxed w p 9 (.string s)) (hr:Boxed w r t (.bool true))
   (hinv:(invoke (.fn fv cap) #[]).run Tryz.prog w = .ok (.enter 72 #[.pointer (some ⟨r,0,none⟩),.pointer (some ⟨p,0,none⟩)]) w)
   (hres:fn.results = #[.cell 8 9,.tmp 9]) (h8:tmps.getD 8 undef = .pointer (some ⟨p,0,none⟩)) (h9:tmps.getD 9 undef = .int .i64 e) :
   Leaves Tryz.prog fn tmps (fun x w' => x = .returned (.tuple #[.string s,.int .i64 e]) /\ Since W w') [{ target:=.fn fv cap,args:=#[] }] .returning w:=by
 refine leaves_cons (by simp) hinv ?_
 refine (d_true ⟨r,0,none⟩ ⟨p,0,none⟩ w hr.cell).mono ?_
 rintro x u' w'' ⟨rfl,rfl,rfl⟩
 exact ⟨_,res_run hp hres h8 h9,rfl,hs⟩
theorem open_nokey (key top c t:ByteArray) (c1:Ret 59 #[.string key] (.tuple #[.string ⟨#[]⟩,.string ⟨#[]⟩,.int .i64 2])) :
   Mak 35 #[.string key,.string top,.string c,.string t] (.tuple #[.string ⟨#[]⟩,.int .i64 2]):=by
 intro w
 obtain ⟨W,hW⟩:∃ W,W = (w.alloc (.cells #[.string ⟨#[]⟩] 9)).alloc (.cells #[.bool false] 4):=⟨_,rfl⟩
 have hp0:Boxed W w.heap.size 9 (.string ⟨#[]⟩):=by rw [hW]; exact (Boxed.new w 9 _).alloc _
 have hr0:Boxed W (w.heap.size + 1) 4 (.bool false):=by
   rw [hW]
   have h:=Boxed.new (w.alloc (.cells #[.string ⟨#[]⟩] 9)) 4 (.bool false)
   have e:(w.alloc (.cells #[.string ⟨#[]⟩] 9)).heap.size = w.heap.size + 1:=by simp
   rwa [e] at h
 have hs0:Since w W:=by rw [hW]; exact ((Since.refl w).alloc _).alloc _
 have HP:=lH hp0
 have HR:=lH hr0
 have HS:=lH hs0
 clear hp0 hr0 hs0
 go_enter_defers Tryz.func35,Tryz.ntmps35
 go_wp2_with fail
 rw [<- hW]
 clear hW
 have m0:=HP.out.cell
 have f0:=HP.out.frozen
 have m1:=HR.out.cell
 have g1:=HR.out.frozen
 refine (c1).calls ?_
 go_wp2_with fail
 refine door_false (Below.setCell (p:=⟨w.heap.size,0,none⟩) HS.out (Nat.le_refl _) _) (Nat.le_refl _) (HP.out.set _) (HR.out.other (by omega) _) ?_ rfl rfl rfl
 simp [go_sem]
theorem open_nosize_empty (key top _c t A B:ByteArray) (c1:Mak 59 #[.string key] (.tuple #[.string A,.string B,.int .i64 0]))  :
   Mak 35 #[.string key,.string top,.string ⟨#[]⟩,.string t] (.tuple #[.string ⟨#[]⟩,.int .i64 4]):=by
 intro w
 obtain ⟨W,hW⟩:∃ W,W = (w.alloc (.cells #[.string ⟨#[]⟩] 9)).alloc (.cells #[.bool false] 4):=⟨_,rfl⟩
 have hp0:Boxed W w.heap.size 9 (.string ⟨#[]⟩):=by rw [hW]; exact (Boxed.new w 9 _).alloc _
 have hr0:Boxed W (w.heap.size + 1) 4 (.bool false):=by
   rw [hW]
   have h:=Boxed.new (w.alloc (.cells #[.string ⟨#[]⟩] 9)) 4 (.bool false)
   have e:(w.alloc (.cells #[.string ⟨#[]⟩] 9)).heap.size = w.heap.size + 1:=by simp
   rwa [e] at h
 have hs0:Since w W:=by rw [hW]; exact ((Since.refl w).alloc _).alloc _
 have HP:=lH hp0
 have HR:=lH hr0
 have HS:=lH hs0
 clear hp0 hr0 hs0
 go_enter_defers Tryz.func35,Tryz.ntmps35
 go_wp2_with fail
 rw [<- hW]
 clear hW
 refine (c1.calls0 ?_)
 intro w1 h1
 replace HP:=lH (Boxed_since HP.out h1)
 replace HR:=lH (Boxed_since HR.out h1)
 replace HS:=lH (Since.step HS.out h1)
 clear h1
 have m0:=HP.out.cell
 have f0:=HP.out.frozen
 have m1:=HR.out.cell
 have g1:=HR.out.frozen
 go_wp2_with fail
 refine door_false (Below.setCell (p:=⟨w.heap.size,0,none⟩) HS.out (Nat.le_refl _) _) (Nat.le_refl _) (HP.out.set _) (HR.out.other (by omega) _) ?_ rfl rfl rfl
 simp [go_sem]
theorem open_nosize_rem (key top c t A B:ByteArray) (c1:Mak 59 #[.string key] (.tuple #[.string A,.string B,.int .i64 0])) (_b1:(!c.toList.isEmpty) = true) (b2:c.toList.isEmpty = false) (_t3:(((c.size:Int) % 16) == 0) = false) (t4:(((c.size:Int) % 16) != 0) = true) (_t5:((c.size:Int).tmod 16 == 0) = false) (_t6:((c.size:Int).tmod 16 != 0) = true) :
   Mak 35 #[.string key,.string top,.string c,.string t] (.tuple #[.string ⟨#[]⟩,.int .i64 4]):=by
 intro w
 obtain ⟨W,hW⟩:∃ W,W = (w.alloc (.cells #[.string ⟨#[]⟩] 9)).alloc (.cells #[.bool false] 4):=⟨_,rfl⟩
 have hp0:Boxed W w.heap.size 9 (.string ⟨#[]⟩):=by rw [hW]; exact (Boxed.new w 9 _).alloc _
 have hr0:Boxed W (w.heap.size + 1) 4 (.bool false):=by
   rw [hW]
   have h:=Boxed.new (w.alloc (.cells #[.string ⟨#[]⟩] 9)) 4 (.bool false)
   have e:(w.alloc (.cells #[.string ⟨#[]⟩] 9)).heap.size = w.heap.size + 1:=by simp
   rwa [e] at h
 have hs0:Since w W:=by rw [hW]; exact ((Since.refl w).alloc _).alloc _
 have HP:=lH hp0
 have HR:=lH hr0
 have HS:=lH hs0
 clear hp0 hr0 hs0
 go_enter_defers Tryz.func35,Tryz.ntmps35
 go_wp2_with fail
 rw [<- hW]
 clear hW
 refine (c1.calls0 ?_)
 intro w1 h1
 replace HP:=lH (Boxed_since HP.out h1)
 replace HR:=lH (Boxed_since HR.out h1)
 replace HS:=lH (Since.step HS.out h1)
 clear h1
 have m0:=HP.out.cell
 have f0:=HP.out.frozen
 have m1:=HR.out.cell
 have g1:=HR.out.frozen
 go_wp2_with fail
 refine door_false (Below.setCell (p:=⟨w.heap.size,0,none⟩) HS.out (Nat.le_refl _) _) (Nat.le_refl _) (HP.out.set _) (HR.out.other (by omega) _) ?_ rfl rfl rfl
 simp [go_sem]
theorem open_nosize_tag (key top c t A B:ByteArray) (c1:Mak 59 #[.string key] (.tuple #[.string A,.string B,.int .i64 0])) (_b1:(!c.toList.isEmpty) = true) (b2:c.toList.isEmpty = false) (_t3:(((c.size:Int) % 16) == 0) = true) (t4:(((c.size:Int) % 16) != 0) = false) (_t5:((c.size:Int).tmod 16 == 0) = true) (_t6:((c.size:Int).tmod 16 != 0) = false) (t7:((t.size:Int) != 16) = true) (_t8:((t.size:Int) == 16) = false) :
   Mak 35 #[.string key,.string top,.string c,.string t] (.tuple #[.string ⟨#[]⟩,.int .i64 4]):=by
 intro w
 obtain ⟨W,hW⟩:∃ W,W = (w.alloc (.cells #[.string ⟨#[]⟩] 9)).alloc (.cells #[.bool false] 4):=⟨_,rfl⟩
 have hp0:Boxed W w.heap.size 9 (.string ⟨#[]⟩):=by rw [hW]; exact (Boxed.new w 9 _).alloc _
 have hr0:Boxed W (w.heap.size + 1) 4 (.bool false):=by
   rw [hW]
   have h:=Boxed.new (w.alloc (.cells #[.string ⟨#[]⟩] 9)) 4 (.bool false)
   have e:(w.alloc (.cells #[.string ⟨#[]⟩] 9)).heap.size = w.heap.size + 1:=by simp
   rwa [e] at h
 have hs0:Since w W:=by rw [hW]; exact ((Since.refl w).alloc _).alloc _
 have HP:=lH hp0
 have HR:=lH hr0
 have HS:=lH hs0
 clear hp0 hr0 hs0
 go_enter_defers Tryz.func35,Tryz.ntmps35
 go_wp2_with fail
 rw [<- hW]
 clear hW
 refine (c1.calls0 ?_)
 intro w1 h1
 replace HP:=lH (Boxed_since HP.out h1)
 replace HR:=lH (Boxed_since HR.out h1)
 replace HS:=lH (Since.step HS.out h1)
 clear h1
 have m0:=HP.out.cell
 have f0:=HP.out.frozen
 have m1:=HR.out.cell
 have g1:=HR.out.frozen
 go_wp2_with fail
 refine door_false (Below.setCell (p:=⟨w.heap.size,0,none⟩) HS.out (Nat.le_refl _) _) (Nat.le_refl _) (HP.out.set _) (HR.out.other (by omega) _) ?_ rfl rfl rfl
 simp [go_sem]
theorem open_good (key top c t A B P J:ByteArray) (c1:Mak 59 #[.string key] (.tuple #[.string A,.string B,.int .i64 0])) (_b1:(!c.toList.isEmpty) = true) (b2:c.toList.isEmpty = false) (_t3:(((c.size:Int) % 16) == 0) = true) (t4:(((c.size:Int) % 16) != 0) = false) (_t5:((c.size:Int).tmod 16 == 0) = true) (_t6:((c.size:Int).tmod 16 != 0) = false) (t7:((t.size:Int) != 16) = false) (_t8:((t.size:Int) == 16) = true)
   (c2:Mak 73 #[.string A,.string t,.string c] (.tuple #[.string P,.int .i64 0])) (f1:top ++ P = J) (z1:¬ 9223372036854775807 < top.size + P.size)
   (c3:Mak 74 #[.string B,.string J,.string t] (.tuple #[.bool true,.int .i64 0])) :
   Mak 35 #[.string key,.string top,.string c,.string t] (.tuple #[.string P,.int .i64 0]):=by
 intro w
 obtain ⟨W,hW⟩:∃ W,W = (w.alloc (.cells #[.string ⟨#[]⟩] 9)).alloc (.cells #[.bool false] 4):=⟨_,rfl⟩
 have hp0:Boxed W w.heap.size 9 (.string ⟨#[]⟩):=by rw [hW]; exact (Boxed.new w 9 _).alloc _
 have hr0:Boxed W (w.heap.size + 1) 4 (.bool false):=by
   rw [hW]
   have h:=Boxed.new (w.alloc (.cells #[.string ⟨#[]⟩] 9)) 4 (.bool false)
   have e:(w.alloc (.cells #[.string ⟨#[]⟩] 9)).heap.size = w.heap.size + 1:=by simp
   rwa [e] at h
 have hs0:Since w W:=by rw [hW]; exact ((Since.refl w).alloc _).alloc _
 have HP:=lH hp0
 have HR:=lH hr0
 have HS:=lH hs0
 clear hp0 hr0 hs0
 go_enter_defers Tryz.func35,Tryz.ntmps35
 go_wp2_with fail
 rw [<- hW]
 clear hW
 refine (c1.calls0 ?_)
 intro w1 h1
 replace HP:=lH (Boxed_since HP.out h1)
 replace HR:=lH (Boxed_since HR.out h1)
 replace HS:=lH (Since.step HS.out h1)
 clear h1
 go_wp2_with fail
 refine (c2.calls0 ?_)
 intro w2 h1
 replace HP:=lH (Boxed_since HP.out h1)
 replace HR:=lH (Boxed_since HR.out h1)
 replace HS:=lH (Since.step HS.out h1)
 clear h1
 have m0:=HP.out.cell
 have f0:=HP.out.frozen
 have m1:=HR.out.cell
 have g1:=HR.out.frozen
 replace HP:=lH (HP.out.set (.string P))
 replace HR:=lH (HR.out.other (show w.heap.size + 1 ≠ w.heap.size by omega) (.string P))
 replace HS:=lH (Below.setCell (p:=⟨w.heap.size,0,none⟩) HS.out (Nat.le_refl _) (.string P))
 have m2:=HP.out.cell
 go_wp2_with fail
 refine (c3.calls0 ?_)
 intro w3 h1
 replace HP:=lH (Boxed_since HP.out h1)
 replace HR:=lH (Boxed_since HR.out h1)
 replace HS:=lH (Since.step HS.out h1)
 clear h1 m0 f0 m1 g1 m2
 have m0:=HP.out.cell
 have f0:=HP.out.frozen
 have m1:=HR.out.cell
 have g1:=HR.out.frozen
 replace HP:=lH (HP.out.other (show w.heap.size ≠ w.heap.size + 1 by omega) (.bool true))
 replace HR:=lH (HR.out.set (.bool true))
 replace HS:=lH (Below.setCell (p:=⟨w.heap.size + 1,0,none⟩) HS.out (Nat.le_succ _) (.bool true))
 have m2:=HP.out.cell
 have f2:=HP.out.frozen
 have m3:=HR.out.cell
 go_wp2_with fail
 refine door_true (Below.setCell (p:=⟨w.heap.size,0,none⟩) HS.out (Nat.le_refl _) _) (HP.out.set _) (HR.out.other (by omega) _) ?_ rfl rfl rfl
 simp [go_sem]
theorem open_bad (key top c t A B P J:ByteArray) (c1:Mak 59 #[.string key] (.tuple #[.string A,.string B,.int .i64 0])) (_b1:(!c.toList.isEmpty) = true) (b2:c.toList.isEmpty = false) (_t3:(((c.size:Int) % 16) == 0) = true) (t4:(((c.size:Int) % 16) != 0) = false) (_t5:((c.size:Int).tmod 16 == 0) = true) (_t6:((c.size:Int).tmod 16 != 0) = false) (t7:((t.size:Int) != 16) = false) (_t8:((t.size:Int) == 16) = true)
   (c2:Mak 73 #[.string A,.string t,.string c] (.tuple #[.string P,.int .i64 0])) (f1:top ++ P = J) (z1:¬ 9223372036854775807 < top.size + P.size)
   (c3:Mak 74 #[.string B,.string J,.string t] (.tuple #[.bool false,.int .i64 0])) :
   Mak 35 #[.string key,.string top,.string c,.string t] (.tuple #[.string ⟨#[]⟩,.int .i64 7]):=by
 intro w
 obtain ⟨W,hW⟩:∃ W,W = (w.alloc (.cells #[.string ⟨#[]⟩] 9)).alloc (.cells #[.bool false] 4):=⟨_,rfl⟩
 have hp0:Boxed W w.heap.size 9 (.string ⟨#[]⟩):=by rw [hW]; exact (Boxed.new w 9 _).alloc _
 have hr0:Boxed W (w.heap.size + 1) 4 (.bool false):=by
   rw [hW]
   have h:=Boxed.new (w.alloc (.cells #[.string ⟨#[]⟩] 9)) 4 (.bool false)
   have e:(w.alloc (.cells #[.string ⟨#[]⟩] 9)).heap.size = w.heap.size + 1:=by simp
   rwa [e] at h
 have hs0:Since w W:=by rw [hW]; exact ((Since.refl w).alloc _).alloc _
 have HP:=lH hp0
 have HR:=lH hr0
 have HS:=lH hs0
 clear hp0 hr0 hs0
 go_enter_defers Tryz.func35,Tryz.ntmps35
 go_wp2_with fail
 rw [<- hW]
 clear hW
 refine (c1.calls0 ?_)
 intro w1 h1
 replace HP:=lH (Boxed_since HP.out h1)
 replace HR:=lH (Boxed_since HR.out h1)
 replace HS:=lH (Since.step HS.out h1)
 clear h1
 go_wp2_with fail
 refine (c2.calls0 ?_)
 intro w2 h1
 replace HP:=lH (Boxed_since HP.out h1)
 replace HR:=lH (Boxed_since HR.out h1)
 replace HS:=lH (Since.step HS.out h1)
 clear h1
 have m0:=HP.out.cell
 have f0:=HP.out.frozen
 have m1:=HR.out.cell
 have g1:=HR.out.frozen
 replace HP:=lH (HP.out.set (.string P))
 replace HR:=lH (HR.out.other (show w.heap.size + 1 ≠ w.heap.size by omega) (.string P))
 replace HS:=lH (Below.setCell (p:=⟨w.heap.size,0,none⟩) HS.out (Nat.le_refl _) (.string P))
 have m2:=HP.out.cell
 go_wp2_with fail
 refine (c3.calls0 ?_)
 intro w3 h1
 replace HP:=lH (Boxed_since HP.out h1)
 replace HR:=lH (Boxed_since HR.out h1)
 replace HS:=lH (Since.step HS.out h1)
 clear h1 m0 f0 m1 g1 m2
 have m0:=HP.out.cell
 have f0:=HP.out.frozen
 have m1:=HR.out.cell
 have g1:=HR.out.frozen
 replace HP:=lH (HP.out.other (show w.heap.size ≠ w.heap.size + 1 by omega) (.bool false))
 replace HR:=lH (HR.out.set (.bool false))
 replace HS:=lH (Below.setCell (p:=⟨w.heap.size + 1,0,none⟩) HS.out (Nat.le_succ _) (.bool false))
 have m2:=HP.out.cell
 have f2:=HP.out.frozen
 have m3:=HR.out.cell
 go_wp2_with fail
 refine door_false (Below.setCell (p:=⟨w.heap.size,0,none⟩) HS.out (Nat.le_refl _) _) (Nat.le_refl _) (HP.out.set _) (HR.out.other (by omega) _) ?_ rfl rfl rfl
 simp [go_sem]
instance (k:ByteArray):Decidable (keyOk k):=by unfold keyOk; infer_instance
def opened (key top c t:ByteArray):ByteArray × Int :=
 if ¬ keyOk key then (⟨#[]⟩,2) else if ¬ cipOk c t then (⟨#[]⟩,4) else if good key top c t then (plain key c t,0) else (⟨#[]⟩,7)
theorem open_mak (key top c t:ByteArray) (_hk:key.size <= 100) (ht:top.size <= 100000) (hc:c.size <= 100000) (_hg:t.size <= 100):Mak 35 #[.string key,.string top,.string c,.string t] (.tuple #[.string (opened key top c t).1,.int .i64 (opened key top c t).2]):=by
 unfold opened
 by_cases h1:keyOk key
 · rw [if_neg (by simpa using h1)]
   have c1:=Der.keys_yes key h1 _ _ rfl rfl
   by_cases h2:cipOk c t
   · rw [if_neg (by simpa using h2)]
     obtain ⟨⟨h3,h4⟩,h5⟩:=id h2
     have g3:(c.size:Int).tmod 16 = (c.size:Int) % 16:=Int.tmod_eq_emod_of_nonneg (by omega)
     have t3:(((c.size:Int) % 16) == 0) = true:=by rw [beq_iff_eq]; omega
     have t4:(((c.size:Int) % 16) != 0) = false:=by rw [bne_eq_false_iff_eq]; omega
     have q2:=Cbc.dec_yes (derK key 0) t c (derK_ok key h1 0) h5 h3 (by omega) _ rfl
     have hps:=plain_size key c t h2
     have hj:(joinS top (plain key c t)).size <= 1000000:=by rw [joinS_size,hps]; omega
     have hz:¬ 9223372036854775807 < top.size + (plain key c t).size:=by rw [hps]; omega
     by_cases h6:good key top c t
     · rw [if_pos h6]
       exact open_good key top c t _ _ (plain key c t) _ c1 (some_bytes c h4) (some_bytes_f c h4) t3 t4 (by rw [g3]; exact t3) (by rw [g3]; exact t4) (by rw [bne_eq_false_iff_eq]; omega) (by rw [beq_iff_eq]; omega) q2 (app_joinS _ _) hz
         (check_yes (derK key 1) (joinS top (plain key c t)) t (derK_ok key h1 1) hj (by omega) true (decide_eq_true h6).symm)
     · rw [if_neg h6]
       exact open_bad key top c t _ _ (plain key c t) _ c1 (some_bytes c h4) (some_bytes_f c h4) t3 t4 (by rw [g3]; exact t3) (by rw [g3]; exact t4) (by rw [bne_eq_false_iff_eq]; omega) (by rw [beq_iff_eq]; omega) q2 (app_joinS _ _) hz
         (check_yes (derK key 1) (joinS top (plain key c t)) t (derK_ok key h1 1) hj (by omega) false (decide_eq_false h6).symm)
   · rw [if_pos (by simpa using h2)]
     by_cases h0:c.size = 0
     · obtain rfl:c = ⟨#[]⟩:=ba_ext (List.eq_nil_of_length_eq_zero (by have h8:c.size = c.data.toList.length:=rfl; omega))
       exact open_nosize_empty key top ⟨#[]⟩ t _ _ c1
     · have g3:(c.size:Int).tmod 16 = (c.size:Int) % 16:=Int.tmod_eq_emod_of_nonneg (by omega)
       by_cases h3:c.size % 16 = 0
       · have h5:t.size ≠ 16:=fun h => h2 ⟨⟨h3,by omega⟩,h⟩
         have t3:(((c.size:Int) % 16) == 0) = true:=by rw [beq_iff_eq]; omega
         have t4:(((c.size:Int) % 16) != 0) = false:=by rw [bne_eq_false_iff_eq]; omega
         exact open_nosize_tag key top c t _ _ c1 (some_bytes c (by omega)) (some_bytes_f c (by omega)) t3 t4 (by rw [g3]; exact t3) (by rw [g3]; exact t4) (by rw [bne_iff_ne]; omega) (by rw [beq_eq_false_iff_ne]; omega)
       · have t3:(((c.size:Int) % 16) == 0) = false:=by rw [beq_eq_false_iff_ne]; omega
         have t4:(((c.size:Int) % 16) != 0) = true:=by rw [bne_iff_ne]; omega
         exact open_nosize_rem key top c t _ _ c1 (some_bytes c (by omega)) (some_bytes_f c (by omega)) t3 t4 (by rw [g3]; exact t3) (by rw [g3]; exact t4)
 · rw [if_pos h1]
   exact open_nokey key top c t (Der.keys_nokey key h1)
end Opn
namespace Opn
open Rnd Aes Cmac Kdf Der Cbc Seal
theorem ropen_good (key top c t A B P J T:ByteArray) (c1:Mak 68 #[.string key] (.tuple #[.string A,.string B,.int .i64 0])) (_b1:(!c.toList.isEmpty) = true) (b2:c.toList.isEmpty = false) (_t3:(((c.size:Int) % 16) == 0) = true) (t4:(((c.size:Int) % 16) != 0) = false) (_t5:((c.size:Int).tmod 16 == 0) = true) (_t6:((c.size:Int).tmod 16 != 0) = false) (t7:((t.size:Int) != 16) = false) (_t8:((t.size:Int) == 16) = true)
   (c2:Mak 81 #[.string A,.string t,.string c] (.tuple #[.string P,.int .i64 0])) (f1:top ++ P = J) (z1:¬ 9223372036854775807 < top.size + P.size)
   (c3:Mak 82 #[.string B,.string J] (.tuple #[.string T,.int .i64 0])) (hq1:(T.toList == t.toList) = true) (_hq2:(!T.toList == t.toList) = false) :
   Mak 38 #[.string key,.string top,.string c,.string t] (.tuple #[.string P,.int .i64 0]):=by
 intro w
 have H0:=lH (Since.refl w)
 go_enter Tryz.func38,Tryz.ntmps38
 go_wp2_with fail
 refine c1.calls H0.out ?_
 intro w1 h1
 have H1:=lH h1
 clear h1
 go_wp2_with fail
 refine c2.calls H1.out ?_
 intro w2 h2
 have H2:=lH h2
 clear h2
 go_wp2_with fail
 refine c3.calls H2.out ?_
 intro w3 h3
 have H3:=lH h3
 clear h3
 go_wp2_with fail
 go_ret2
 exact ⟨rfl,H3.out⟩
theorem ropen_bad (key top c t A B P J T:ByteArray) (c1:Mak 68 #[.string key] (.tuple #[.string A,.string B,.int .i64 0])) (_b1:(!c.toList.isEmpty) = true) (b2:c.toList.isEmpty = false) (_t3:(((c.size:Int) % 16) == 0) = true) (t4:(((c.size:Int) % 16) != 0) = false) (_t5:((c.size:Int).tmod 16 == 0) = true) (_t6:((c.size:Int).tmod 16 != 0) = false) (t7:((t.size:Int) != 16) = false) (_t8:((t.size:Int) == 16) = true)
   (c2:Mak 81 #[.string A,.string t,.string c] (.tuple #[.string P,.int .i64 0])) (f1:top ++ P = J) (z1:¬ 9223372036854775807 < top.size + P.size)
   (c3:Mak 82 #[.string B,.string J] (.tuple #[.string T,.int .i64 0])) (hq1:(T.toList == t.toList) = false) (_hq2:(!T.toList == t.toList) = true) :
   Mak 38 #[.string key,.string top,.string c,.string t] (.tuple #[.string ⟨#[]⟩,.int .i64 7]):=by
 intro w
 have H0:=lH (Since.refl w)
 go_enter Tryz.func38,Tryz.ntmps38
 go_wp2_with fail
 refine c1.calls H0.out ?_
 intro w1 h1
 have H1:=lH h1
 clear h1
 go_wp2_with fail
 refine c2.calls H1.out ?_
 intro w2 h2
 have H2:=lH h2
 clear h2
 go_wp2_with fail
 refine c3.calls H2.out ?_
 intro w3 h3
 have H3:=lH h3
 clear h3
 go_wp2_with fail
 go_ret2
 exact ⟨rfl,H3.out⟩
theorem ropen_nokey (key top c t:ByteArray) (c1:Ret 68 #[.string key] (.tuple #[.string ⟨#[]⟩,.string ⟨#[]⟩,.int .i64 2])) :
   Mak 38 #[.string key,.string top,.string c,.string t] (.tuple #[.string ⟨#[]⟩,.int .i64 2]):=by
 intro w
 have H0:=lH (Since.refl w)
 go_enter Tryz.func38,Tryz.ntmps38
 go_wp2_with fail
 refine (c1).calls ?_
 go_wp2_with fail
 go_ret2
 exact ⟨rfl,H0.out⟩
theorem ropen_nosize_empty (key top _c t A B:ByteArray) (c1:Mak 68 #[.string key] (.tuple #[.string A,.string B,.int .i64 0]))  :
   Mak 38 #[.string key,.string top,.string ⟨#[]⟩,.string t] (.tuple #[.string ⟨#[]⟩,.int .i64 4]):=by
 intro w
 have H0:=lH (Since.refl w)
 go_enter Tryz.func38,Tryz.ntmps38
 go_wp2_with fail
 refine c1.calls H0.out ?_
 intro w1 h1
 have H1:=lH h1
 clear h1
 go_wp2_with fail
 go_ret2
 exact ⟨rfl,H1.out⟩
theorem ropen_nosize_rem (key top c t A B:ByteArray) (c1:Mak 68 #[.string key] (.tuple #[.string A,.string B,.int .i64 0])) (_b1:(!c.toList.isEmpty) = true) (b2:c.toList.isEmpty = false) (_t3:(((c.size:Int) % 16) == 0) = false) (t4:(((c.size:Int) % 16) != 0) = true) (_t5:((c.size:Int).tmod 16 == 0) = false) (_t6:((c.size:Int).tmod 16 != 0) = true) :
   Mak 38 #[.string key,.string top,.string c,.string t] (.tuple #[.string ⟨#[]⟩,.int .i64 4]):=by
 intro w
 have H0:=lH (Since.refl w)
 go_enter Tryz.func38,Tryz.ntmps38
 go_wp2_with fail
 refine c1.calls H0.out ?_
 intro w1 h1
 have H1:=lH h1
 clear h1
 go_wp2_with fail
 go_ret2
 exact ⟨rfl,H1.out⟩
theorem ropen_nosize_tag (key top c t A B:ByteArray) (c1:Mak 68 #[.string key] (.tuple #[.string A,.string B,.int .i64 0])) (_b1:(!c.toList.isEmpty) = true) (b2:c.toList.isEmpty = false) (_t3:(((c.size:Int) % 16) == 0) = true) (t4:(((c.size:Int) % 16) != 0) = false) (_t5:((c.size:Int).tmod 16 == 0) = true) (_t6:((c.size:Int).tmod 16 != 0) = false) (t7:((t.size:Int) != 16) = true) (_t8:((t.size:Int) == 16) = false) :
   Mak 38 #[.string key,.string top,.string c,.string t] (.tuple #[.string ⟨#[]⟩,.int .i64 4]):=by
 intro w
 have H0:=lH (Since.refl w)
 go_enter Tryz.func38,Tryz.ntmps38
 go_wp2_with fail
 refine c1.calls H0.out ?_
 intro w1 h1
 have H1:=lH h1
 clear h1
 go_wp2_with fail
 go_ret2
 exact ⟨rfl,H1.out⟩
theorem ropen_mak (key top c t:ByteArray) (hk:key.size <= 100) (ht:top.size <= 100000) (hc:c.size <= 100000) (_hg:t.size <= 100):Mak 38 #[.string key,.string top,.string c,.string t] (.tuple #[.string (opened key top c t).1,.int .i64 (opened key top c t).2]):=by
 unfold opened
 by_cases h1:keyOk key
 · rw [if_neg (by simpa using h1)]
   have c1:=RefDer.keys_yes key h1 _ _ rfl rfl
   by_cases h2:cipOk c t
   · rw [if_neg (by simpa using h2)]
     obtain ⟨⟨h3,h4⟩,h5⟩:=id h2
     have g3:(c.size:Int).tmod 16 = (c.size:Int) % 16:=Int.tmod_eq_emod_of_nonneg (by omega)
     have t3:(((c.size:Int) % 16) == 0) = true:=by rw [beq_iff_eq]; omega
     have t4:(((c.size:Int) % 16) != 0) = false:=by rw [bne_eq_false_iff_eq]; omega
     have q2:=RefCbc.dec_yes (derK key 0) t c (derK_ok key h1 0) h5 h3 (by omega) _ rfl
     have hps:=plain_size key c t h2
     have hj:(joinS top (plain key c t)).size <= 1000000:=by rw [joinS_size,hps]; omega
     have hz:¬ 9223372036854775807 < top.size + (plain key c t).size:=by rw [hps]; omega
     by_cases h6:good key top c t
     · rw [if_pos h6]
       exact ropen_good key top c t _ _ (plain key c t) _ _ c1 (some_bytes c h4) (some_bytes_f c h4) t3 t4 (by rw [g3]; exact t3) (by rw [g3]; exact t4) (by rw [bne_eq_false_iff_eq]; omega) (by rw [beq_iff_eq]; omega) q2 (app_joinS _ _) hz
         (RefCmac.tag_yes (derK key 1) (joinS top (plain key c t)) (derK_ok key h1 1) hj _ rfl) (str_eq_t h6) (str_eq_f h6)
     · rw [if_neg h6]
       exact ropen_bad key top c t _ _ (plain key c t) _ _ c1 (some_bytes c h4) (some_bytes_f c h4) t3 t4 (by rw [g3]; exact t3) (by rw [g3]; exact t4) (by rw [bne_eq_false_iff_eq]; omega) (by rw [beq_iff_eq]; omega) q2 (app_joinS _ _) hz
         (RefCmac.tag_yes (derK key 1) (joinS top (plain key c t)) (derK_ok key h1 1) hj _ rfl) (str_ne_f h6) (str_ne_t h6)
   · rw [if_pos (by simpa using h2)]
     by_cases h0:c.size = 0
     · obtain rfl:c = ⟨#[]⟩:=ba_ext (List.eq_nil_of_length_eq_zero (by have h8:c.size = c.data.toList.length:=rfl; omega))
       exact ropen_nosize_empty key top ⟨#[]⟩ t _ _ c1
     · have g3:(c.size:Int).tmod 16 = (c.size:Int) % 16:=Int.tmod_eq_emod_of_nonneg (by omega)
       by_cases h3:c.size % 16 = 0
       · have h5:t.size ≠ 16:=fun h => h2 ⟨⟨h3,by omega⟩,h⟩
         have t3:(((c.size:Int) % 16) == 0) = true:=by rw [beq_iff_eq]; omega
         have t4:(((c.size:Int) % 16) != 0) = false:=by rw [bne_eq_false_iff_eq]; omega
         exact ropen_nosize_tag key top c t _ _ c1 (some_bytes c (by omega)) (some_bytes_f c (by omega)) t3 t4 (by rw [g3]; exact t3) (by rw [g3]; exact t4) (by rw [bne_iff_ne]; omega) (by rw [beq_eq_false_iff_ne]; omega)
       · have t3:(((c.size:Int) % 16) == 0) = false:=by rw [beq_eq_false_iff_ne]; omega
         have t4:(((c.size:Int) % 16) != 0) = true:=by rw [bne_iff_ne]; omega
         exact ropen_nosize_rem key top c t _ _ c1 (some_bytes c (by omega)) (some_bytes_f c (by omega)) t3 t4 (by rw [g3]; exact t3) (by rw [g3]; exact t4)
 · rw [if_pos h1]
   exact ropen_nokey key top c t (RefDer.keys_nokey key (by omega) h1)
theorem prev_forth (f g:ByteArray -> ByteArray) (hg16:∀ b,(g b).size = 16) (hg:∀ b,b.size = 16 -> f (g b) = b) (iv:ByteArray) (hiv:iv.size = 16) (l:List UInt8) (n:Nat) (hl:l.length = 16 * n) (k:Nat) (h:k <= n):prevE f iv (chainD g iv l n) k = prevD iv l k:=by
 induction k with
 | zero => rfl
 | succ k ih =>
   have hp:Oct.pc (chainD g iv l n) 16 k = Sched.xorS (g (Oct.pc l 16 k)) (prevD iv l k):=by
     clear ih
     have go:∀ m,m <= n -> k < m -> Oct.pc (chainD g iv l m) 16 k = Sched.xorS (g (Oct.pc l 16 k)) (prevD iv l k):=by
       intro m
       induction m with
       | zero => intro _ h2; omega
       | succ m im =>
         intro h1 h2
         have hn:=chainD_len g hg16 iv hiv l m (by omega)
         rw [chainD]
         by_cases hk:k < m
         · rw [<- im (by omega) hk]
           unfold Oct.pc
           rw [List.drop_append_of_le_length (by omega),List.take_append_of_le_length (by rw [List.length_drop]; omega)]
         · obtain rfl:k = m:=by omega
           have h9:(Sched.xorS (g (Oct.pc l 16 k)) (prevD iv l k)).data.toList.length = 16:=xor16_size _ _ (hg16 _) (prevD_size iv hiv l k (by omega))
           generalize Sched.xorS (g (Oct.pc l 16 k)) (prevD iv l k) = X at h9 ⊢
           unfold Oct.pc
           rw [List.drop_append,List.drop_eq_nil_of_le (by omega),hn,Nat.sub_self,List.nil_append,List.drop_zero]
           rw [List.take_of_length_le (by omega)]
           exact bs_list _
     exact go n (Nat.le_refl _) (by omega)
   rw [prevE,hp,ih (by omega),xorS_back _ _ (hg16 _) (prevD_size iv hiv l k (by omega)),hg _ (pc_size l k (by omega))]
   rfl
theorem chain_forth (f g:ByteArray -> ByteArray) (hg16:∀ b,(g b).size = 16) (hg:∀ b,b.size = 16 -> f (g b) = b) (iv:ByteArray) (hiv:iv.size = 16) (l:List UInt8) (n:Nat) (hl:l.length = 16 * n) (k:Nat) (h:k <= n):chainE f iv (chainD g iv l n) k = l.take (16 * k):=by
 induction k with
 | zero => simp [chainE]
 | succ k ih => rw [chainE,ih (by omega),prev_forth f g hg16 hg iv hiv l n hl (k + 1) h,prevD,take_pc]
theorem enc_decC (key iv s:ByteArray) (hiv:iv.size = 16) (hs:s.size % 16 = 0):encC key iv (decC key iv s) = s:=by
 have hl:s.data.toList.length = s.size:=rfl
 apply ba_ext
 unfold encC
 rw [list_bs]
 have hz:(decC key iv s).size / 16 = s.size / 16:=by unfold decC; rw [size_bs,chainD_len _ (decK_size key) iv hiv _ _ (by omega)]; omega
 rw [hz]
 unfold decC
 rw [list_bs,chain_forth (encK key) (decK key) (decK_size key) (fun b hb => encK_decK key b hb) iv hiv _ _ (by omega) _ (Nat.le_refl _),List.take_of_length_le (by omega)]
theorem opened_sealed (key top pay:ByteArray) (hk:keyOk key) (hp:payOk pay):opened key top (cipK key top pay) (bindK key top pay) = (pay,0):=by
 have hpl:plain key (cipK key top pay) (bindK key top pay) = pay:=dec_encC _ _ pay (bindK_size _ _ _) hp.1
 have hcs:(cipK key top pay).size = pay.size:=by
   obtain ⟨p1,p2⟩:=hp
   unfold cipK encC
   rw [size_bs,chainE_len _ (encK_size _)]; omega
 unfold opened
 rw [if_neg (by simpa using hk),if_neg (by rw [Classical.not_not]; exact ⟨by unfold payOk; rw [hcs]; exact hp,bindK_size _ _ _⟩),if_pos (by unfold good; rw [hpl]),hpl]
theorem sealed_opened (key top c t:ByteArray) (hc:cipOk c t) (hg:good key top c t):cipK key top (plain key c t) = c /\ bindK key top (plain key c t) = t:=by
 refine ⟨?_,hg⟩
 unfold good at hg
 unfold cipK
 rw [hg]
 exact enc_decC _ _ c hc.2 hc.1.1
end Opn
end Go.Proofs.YtddlaafpianjbaaGreatDoor
