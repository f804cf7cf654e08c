import Derived.Test.YtagmgldibjjeeaaDoorPt20
import Derived.Test.YtagmgldibjjeeaaDoorPt18
set_option maxRecDepth 100000
namespace Go.Proofs.YtagmgldibjjeeaaDoor
open Go.RowKit Go.Lib
namespace Pm
theorem idx_from (s:ByteArray):∀ (f pos:Nat),s.size - pos <= f -> (Lib.idxFuncFrom (fun r => !okR r) true s f pos < 0 ↔ (s.data.toList.drop pos).all okC = true):=by
 intro f
 induction f with
 | zero =>
   intro pos h
   rw [List.drop_eq_nil_of_le (by show s.size <= pos; omega)]
   unfold Lib.idxFuncFrom
   simp
 | succ f ih =>
   intro pos h
   unfold Lib.idxFuncFrom
   by_cases hp:pos < s.size
   · rw [if_pos hp]
     have hd:s.data.toList.drop pos = s[pos] :: s.data.toList.drop (pos + 1):=List.drop_eq_getElem_cons (show pos < s.data.toList.length from hp)
     rw [hd,List.all_cons]
     by_cases ha:(s[pos]'hp).toNat < 128
     · rw [decode_ascii s pos hp ha]
       dsimp only
       by_cases hc:okC s[pos] = true
       · rw [okR_c,hc,if_neg (by decide),ih (pos + 1) (by omega)]
         simp
       · have hc2:okC s[pos] = false:=by simpa using hc
         rw [okR_c,hc2,if_pos (by decide)]
         simp
     · have hh:=decode_high s pos hp (by omega)
       have hc2:okC s[pos] = false:=by rw [<- okR_c]; exact okR_hi _ (by omega)
       rw [okR_hi _ hh.1,if_pos (by decide),hc2]
       simp
   · rw [if_neg hp,List.drop_eq_nil_of_le (by show s.size <= pos; omega)]
     simp
theorem idx_ok (s:ByteArray):Lib.idxFunc (fun r => !okR r) true s < 0 ↔ s.data.toList.all okC = true:=by
 have h:=idx_from s s.size 0 (by omega)
 rwa [List.drop_zero] at h
theorem other_at (B:Nat) (w:World) (hB:B < w.heap.size) (hc:w.cell? ⟨B,0,none⟩ = some (.func (.func 34) #[] #[])):PredAt Tryd.prog 35 #[.pointer (some ⟨B,0,none⟩)] encR (fun r => !okR r) w:=by
 intro W r hb
 have hc2:=(hb.cell (p:=⟨B,0,none⟩) hB).trans hc
 have c1:=allowed_ret r
 obtain ⟨q,hq⟩:∃ q,q = okR r:=⟨_,rfl⟩
 show FnGives Tryd.prog 35 #[.pointer (some ⟨B,0,none⟩)] #[.int .i32 (r:Int)] (.bool (!okR r)) W
 rw [<- hq] at c1 ⊢
 clear hq hc hb
 unfold FnGives
 go_enter Tryd.func35,Tryd.ntmps35
 go_wp2_with fail
 refine (c1 _).mono ?_
 rintro _ w5 ⟨rfl,rfl⟩
 go_wp2_with fail
 go_ret
 exact ⟨rfl,0,rfl⟩
theorem box_func (w:World) (F:Nat) (T:TypeId):(store ⟨w.heap.size,0,none⟩ (.func (.func F) #[] #[])).run Tryd.prog (w.alloc (.cells #[.nilFunc] T)) = .ok () (w.alloc (.cells #[.func (.func F) #[] #[]] T)):=by
 have h1:(w.alloc (.cells #[.nilFunc] T)).cell? ⟨w.heap.size,0,none⟩ = some .nilFunc:=(World.cell?_alloc_new _ _ _ _).trans rfl
 have h2:(w.alloc (.cells #[.nilFunc] T)).frozen? ⟨w.heap.size,0,none⟩ = false:=frozen_of_row _ _ 0 _ _ (heap_alloc_new w (.cells #[.nilFunc] T))
 have h3:=World.setCell_alloc_new (w:=w) #[.nilFunc] T 0 (.func (.func F) #[] #[])
 rw [run_store _ _ _ _ _ rfl]
 simp [h1,h2]
 rw [h3]
 rfl
set_option maxHeartbeats 4000000 in
theorem named_mk (s:ByteArray) (hm:s.size <= 100000):Mak 18 #[.string s] (.bool (nameOk s.data.toList)):=by
 have hl:s.data.toList.length = s.size:=rfl
 by_cases h0:s.data.toList = []
 · rw [name_1 _ h0]
   have e0:(s.toList == ([]:List UInt8)) = true:=by rw [toList_d,h0]; rfl
   have e1:(s.toList != ([]:List UInt8)) = false:=by rw [bne,e0]; rfl
   clear hl h0
   intro w
   have hst:=box_func w 34 61
   have hc0:(w.alloc (.cells #[.func (.func 34) #[] #[]] 61)).cell? ⟨w.heap.size,0,none⟩ = some (.func (.func 34) #[] #[]):=(World.cell?_alloc_new _ _ _ _).trans rfl
   have HP:=lH (Tryd.strings_IndexFunc 35 #[.pointer (some ⟨w.heap.size,0,none⟩)] (enters_of Tryd.func35 (by kernel_rfl) rfl) (fun r => !okR r) s _ (other_at w.heap.size _ (by simp) hc0))
   have HS:=lH ((Since.refl w).alloc (.cells #[.func (.func 34) #[] #[]] 61))
   clear hc0
   go_enter Tryd.func18,Tryd.ntmps18
   go_wp2_with fail
   go_ret
   exact ⟨rfl,HS.out⟩
 have e0:(s.toList == ([]:List UInt8)) = false:=by rw [toList_d]; exact beq_eq_false_iff_ne.2 h0
 have e1:(s.toList != ([]:List UInt8)) = true:=by rw [bne,e0]; rfl
 by_cases h1:s.size <= 40
 · have t1:decide ((s.size:Int) <= 40) = true:=decide_eq_true (by omega)
   have t2:(s.size:Int) <= 40:=by omega
   by_cases h2:s.data.toList.all okC = true
   · have i1:=(idx_ok s).2 h2
     have c2:=Trim.trim_mak s (by omega) 32 (by decide) _ rfl
     obtain ⟨Y,hY⟩:∃ Y,Y = bs (Trim.left 32 (Trim.right 32 s.data.toList)):=⟨_,rfl⟩
     rw [<- hY] at c2
     obtain ⟨I,hI⟩:∃ I,I = Lib.idxFunc (fun r => !okR r) true s:=⟨_,rfl⟩
     rw [<- hI] at i1
     have HI:=lH hI
     by_cases h3:Trim.left 32 (Trim.right 32 s.data.toList) = s.data.toList
     · rw [name_5 _ h0 (by omega) h2 h3]
       have q1:(Y.toList == s.toList) = true:=by rw [toList_d,toList_d,hY,list_bs]; exact beq_iff_eq.2 h3
       clear hl h0 h1 h2 h3 hY hI
       intro w
       have hst:=box_func w 34 61
       have hc0:(w.alloc (.cells #[.func (.func 34) #[] #[]] 61)).cell? ⟨w.heap.size,0,none⟩ = some (.func (.func 34) #[] #[]):=(World.cell?_alloc_new _ _ _ _).trans rfl
       have HP:=lH (Tryd.strings_IndexFunc 35 #[.pointer (some ⟨w.heap.size,0,none⟩)] (enters_of Tryd.func35 (by kernel_rfl) rfl) (fun r => !okR r) s _ (other_at w.heap.size _ (by simp) hc0))
       have HS:=lH ((Since.refl w).alloc (.cells #[.func (.func 34) #[] #[]] 61))
       clear hc0
       go_enter Tryd.func18,Tryd.ntmps18
       go_wp2_with fail
       refine HP.out.mono ?_
       rintro _ w5 ⟨rfl,h5⟩
       rw [<- HI.out]
       replace HS:=lH (HS.out.step h5)
       clear h5 HP
       go_wp2_with fail
       refine c2.calls0 ?_
       intro w6 h6
       replace HS:=lH (HS.out.step h6)
       clear h6
       go_wp2_with fail
       go_ret
       exact ⟨rfl,HS.out⟩
     · rw [name_4 _ h3]
       have q1:(Y.toList == s.toList) = false:=by rw [toList_d,toList_d,hY,list_bs]; exact beq_eq_false_iff_ne.2 h3
       clear hl h0 h1 h2 h3 hY hI
       intro w
       have hst:=box_func w 34 61
       have hc0:(w.alloc (.cells #[.func (.func 34) #[] #[]] 61)).cell? ⟨w.heap.size,0,none⟩ = some (.func (.func 34) #[] #[]):=(World.cell?_alloc_new _ _ _ _).trans rfl
       have HP:=lH (Tryd.strings_IndexFunc 35 #[.pointer (some ⟨w.heap.size,0,none⟩)] (enters_of Tryd.func35 (by kernel_rfl) rfl) (fun r => !okR r) s _ (other_at w.heap.size _ (by simp) hc0))
       have HS:=lH ((Since.refl w).alloc (.cells #[.func (.func 34) #[] #[]] 61))
       clear hc0
       go_enter Tryd.func18,Tryd.ntmps18
       go_wp2_with fail
       refine HP.out.mono ?_
       rintro _ w5 ⟨rfl,h5⟩
       rw [<- HI.out]
       replace HS:=lH (HS.out.step h5)
       clear h5 HP
       go_wp2_with fail
       refine c2.calls0 ?_
       intro w6 h6
       replace HS:=lH (HS.out.step h6)
       clear h6
       go_wp2_with fail
       go_ret
       exact ⟨rfl,HS.out⟩
   · rw [name_3 _ h2]
     have i1:¬ Lib.idxFunc (fun r => !okR r) true s < 0:=fun h => h2 ((idx_ok s).1 h)
     obtain ⟨I,hI⟩:∃ I,I = Lib.idxFunc (fun r => !okR r) true s:=⟨_,rfl⟩
     rw [<- hI] at i1
     have HI:=lH hI
     clear hl h0 h1 h2 hI
     intro w
     have hst:=box_func w 34 61
     have hc0:(w.alloc (.cells #[.func (.func 34) #[] #[]] 61)).cell? ⟨w.heap.size,0,none⟩ = some (.func (.func 34) #[] #[]):=(World.cell?_alloc_new _ _ _ _).trans rfl
     have HP:=lH (Tryd.strings_IndexFunc 35 #[.pointer (some ⟨w.heap.size,0,none⟩)] (enters_of Tryd.func35 (by kernel_rfl) rfl) (fun r => !okR r) s _ (other_at w.heap.size _ (by simp) hc0))
     have HS:=lH ((Since.refl w).alloc (.cells #[.func (.func 34) #[] #[]] 61))
     clear hc0
     go_enter Tryd.func18,Tryd.ntmps18
     go_wp2_with fail
     refine HP.out.mono ?_
     rintro _ w5 ⟨rfl,h5⟩
     rw [<- HI.out]
     replace HS:=lH (HS.out.step h5)
     clear h5 HP
     go_wp2_with fail
     go_ret
     exact ⟨rfl,HS.out⟩
 · rw [name_2 _ (by omega)]
   have t1:decide ((s.size:Int) <= 40) = false:=decide_eq_false (by omega)
   have t2:¬ (s.size:Int) <= 40:=by omega
   clear hl h0 h1
   intro w
   have hst:=box_func w 34 61
   have hc0:(w.alloc (.cells #[.func (.func 34) #[] #[]] 61)).cell? ⟨w.heap.size,0,none⟩ = some (.func (.func 34) #[] #[]):=(World.cell?_alloc_new _ _ _ _).trans rfl
   have HP:=lH (Tryd.strings_IndexFunc 35 #[.pointer (some ⟨w.heap.size,0,none⟩)] (enters_of Tryd.func35 (by kernel_rfl) rfl) (fun r => !okR r) s _ (other_at w.heap.size _ (by simp) hc0))
   have HS:=lH ((Since.refl w).alloc (.cells #[.func (.func 34) #[] #[]] 61))
   clear hc0
   go_enter Tryd.func18,Tryd.ntmps18
   go_wp2_with fail
   go_ret
   exact ⟨rfl,HS.out⟩
end Pm
end Go.Proofs.YtagmgldibjjeeaaDoor
