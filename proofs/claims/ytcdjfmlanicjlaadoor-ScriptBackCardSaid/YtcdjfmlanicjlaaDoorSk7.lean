import Derived.Test.YtcdjfmlanicjlaaDoorSk4
import Derived.BigQuiet
set_option maxRecDepth 100000
namespace Go.Proofs.YtcdjfmlanicjlaaDoor
open Go.RowKit
namespace Trim
theorem retStill {f:Nat} {args:Array Value} {v:Value} (h:Ret f args v) (w:World):Calls Tryd.prog f args w fun e w' => e = .returned v /\ w' = w:=(h w).mono fun _ _ ⟨he,hw⟩ => ⟨he,hw.symm⟩
def strN:Value -> Nat
 | .string s => s.size
 | _ => 0
def left (c:UInt8) (l:List UInt8):List UInt8:=l.dropWhile (· == c)
def right (c:UInt8) (l:List UInt8):List UInt8:=(left c l.reverse).reverse
theorem left_all (c:UInt8) (l:List UInt8):left c l = [] ↔ ∀ x ∈ l,x = c:=by
 induction l with
 | nil => simp [left]
 | cons a l ih =>
   unfold left at ih ⊢
   rw [List.dropWhile_cons]
   by_cases h:a = c
   · rw [if_pos (by simpa using h)]
     rw [ih]
     simp [h]
   · rw [if_neg (by simpa using h)]
     simp [h]
theorem trim_all (c:UInt8) (l:List UInt8):left c (right c l) = [] ↔ ∀ x ∈ l,x = c:=by
 rw [left_all]
 unfold right
 constructor
 · intro h
   by_cases hn:left c l.reverse = []
   · intro x hx
     exact (left_all c l.reverse).1 hn x (by simpa using hx)
   · exfalso
     have hq:∀ m:List UInt8,m.dropWhile (· == c) ≠ [] -> ∃ a t,m.dropWhile (· == c) = a :: t /\ a ≠ c:=by
       intro m
       induction m with
       | nil => intro h; exact absurd rfl h
       | cons b m ih =>
         rw [List.dropWhile_cons]
         by_cases hb:b = c
         · rw [if_pos (by simpa using hb)]; exact ih
         · rw [if_neg (by simpa using hb)]; intro _; exact ⟨b,m,rfl,hb⟩
     obtain ⟨a,t,h1,h2⟩:=hq l.reverse hn
     exact h2 (h a (by rw [List.mem_reverse]; unfold left; rw [h1]; simp))
 · intro h x hx
   rw [List.mem_reverse] at hx
   have hs:∀ m:List UInt8,∀ x ∈ m.dropWhile (· == c),x ∈ m:=by
     intro m
     induction m with
     | nil => intro x h; exact h
     | cons b m ih =>
       intro x
       rw [List.dropWhile_cons]
       split
       · intro h2; exact List.mem_cons_of_mem _ (ih x h2)
       · exact id
   have h3:=hs _ x hx
   exact h x (List.mem_reverse.1 h3)
theorem right_snoc (c a:UInt8) (l:List UInt8):right c (l ++ [a]) = if a = c then right c l else l ++ [a]:=by
 unfold right left
 rw [List.reverse_append,List.reverse_singleton,List.singleton_append,List.dropWhile_cons]
 by_cases h:a = c
 · rw [if_pos (by simpa using h),if_pos h]
 · rw [if_neg (by simpa using h),if_neg h]; simp
set_option maxHeartbeats 1000000 in
theorem tleft_ret (c:UInt8) (s:ByteArray) (hm:s.size <= 140737488355328) (R:ByteArray) (hR:left c s.data.toList = R.data.toList) (d:Int) (hd:d = (c.toNat:Int)):Ret 73 #[.string s,.int .u8 d] (.string R):=by
 intro w
 have HR:=lH hR
 clear hR
 go_enter Tryd.func73,Tryd.ntmps73
 go_wp2_with fail
 go_loop [0] (fun v => ∃ t:ByteArray,v = .string t /\ t.size <= 140737488355328 /\ Hid (left c t.data.toList = R.data.toList)) (fun v => strN v)
 case atStart => exact ⟨s,rfl,hm,HR⟩
 case round =>
   clear HR hm
   obtain ⟨t,rfl,hm,HR⟩:=hrel
   have hl:t.data.toList.length = t.size:=rfl
   by_cases h0:0 < t.size
   · obtain ⟨q,hq⟩:∃ q,((t[0].toNat:Int) == d) = q:=⟨_,rfl⟩
     have h3:t.data.toList = t[0] :: t.data.toList.drop 1:=by
       have h9:=List.drop_eq_getElem_cons (show 0 < t.data.toList.length from h0)
       rw [List.drop_zero] at h9
       exact h9
     have hr:=HR.out
     rw [h3] at hr
     unfold left at hr
     rw [List.dropWhile_cons] at hr
     cases q
     · have hne:t[0] ≠ c:=fun h => by
         rw [beq_eq_false_iff_ne,hd,h] at hq; exact hq rfl
       rw [if_neg (by simpa using hne)] at hr
       have e:t = R:=ba_ext (h3.trans hr)
       subst e
       clear hr h3 hl HR hd hne
       go_wp2
       go_ret
       exact ⟨rfl,rfl⟩
     · have he:t[0] = c:=UInt8.toNat_inj.1 (by rw [beq_iff_eq,hd] at hq; omega)
       rw [if_pos (by simpa using he)] at hr
       obtain ⟨B,hB⟩:∃ B,t.extract 1 t.size = B:=⟨_,rfl⟩
       have hBl:B.data.toList = t.data.toList.drop 1:=by
         rw [<- hB,ext_list,List.take_of_length_le (by rw [List.length_drop]; omega)]
       have hBs:B.size + 1 = t.size:=by
         have h8:B.data.toList.length = B.size:=rfl
         rw [hBl,List.length_drop] at h8; omega
       have HR2:=lH (show left c B.data.toList = R.data.toList by rw [hBl]; exact hr)
       have i3:(1:Int) <= (t.size:Int):=by omega
       clear hr h3 hl HR hd he hBl
       go_wp2
       go_round
       case rel => exact ⟨B,rfl,by omega,HR2⟩
       case measure => show B.size < t.size; omega
   · have hz:t.size = 0:=by omega
     have e:t = R:=by
       have h9:t.data.toList = []:=List.eq_nil_of_length_eq_zero (by omega)
       refine ba_ext ?_
       rw [<- HR.out,h9]; rfl
     subst e
     clear hl HR hd
     go_wp2
     go_ret
     exact ⟨rfl,rfl⟩
set_option maxHeartbeats 1000000 in
theorem tright_ret (c:UInt8) (s:ByteArray) (hm:s.size <= 140737488355328) (R:ByteArray) (hR:right c s.data.toList = R.data.toList) (d:Int) (hd:d = (c.toNat:Int)):Ret 74 #[.string s,.int .u8 d] (.string R):=by
 intro w
 have HR:=lH hR
 clear hR
 go_enter Tryd.func74,Tryd.ntmps74
 go_wp2_with fail
 go_loop [0] (fun v => ∃ t:ByteArray,v = .string t /\ t.size <= 140737488355328 /\ Hid (right c t.data.toList = R.data.toList)) (fun v => strN v)
 case atStart => exact ⟨s,rfl,hm,HR⟩
 case round =>
   clear HR hm
   obtain ⟨t,rfl,hm,HR⟩:=hrel
   have hl:t.data.toList.length = t.size:=rfl
   by_cases h0:0 < t.size
   · obtain ⟨m,hm1⟩:∃ m,t.size = m + 1:=⟨t.size - 1,by omega⟩
     have hlt:m < t.size:=by omega
     obtain ⟨q,hq⟩:∃ q,((t[m].toNat:Int) == d) = q:=⟨_,rfl⟩
     have e1:IntKind.i64.wrap ((t.size:Int) - 1) = (m:Int):=by rw [IntWalk.i64_in _ (by omega)]; omega
     have h3:t.data.toList = t.data.toList.take m ++ [t[m]]:=by
       have h9:=List.take_succ_eq_append_getElem (show m < t.data.toList.length from hlt)
       rw [List.take_of_length_le (by omega)] at h9
       exact h9
     have hr:=HR.out
     rw [h3,right_snoc] at hr
     cases q
     · have hne:t[m] ≠ c:=fun h => by
         rw [beq_eq_false_iff_ne,hd,h] at hq; exact hq rfl
       rw [if_neg hne,<- h3] at hr
       have e:t = R:=ba_ext hr
       subst e
       clear hr h3 hl HR hd hne hm1
       go_wp2
       go_ret
       exact ⟨rfl,rfl⟩
     · have he:t[m] = c:=UInt8.toNat_inj.1 (by rw [beq_iff_eq,hd] at hq; omega)
       rw [if_pos he] at hr
       obtain ⟨B,hB⟩:∃ B,t.extract 0 m = B:=⟨_,rfl⟩
       have hBl:B.data.toList = t.data.toList.take m:=by
         rw [<- hB,ext_list,List.drop_zero,Nat.sub_zero]
       have hBs:B.size = m:=by
         have h8:B.data.toList.length = B.size:=rfl
         rw [hBl,List.length_take] at h8; omega
       have HR2:=lH (show right c B.data.toList = R.data.toList by rw [hBl]; exact hr)
       have i2:(m:Int) <= (t.size:Int):=by omega
       have i1:(0:Int) <= (m:Int):=by omega
       have hms:B.size < t.size /\ B.size <= 140737488355328:=by omega
       clear hr h3 hl HR hd he hBl hm1 hBs
       go_wp2
       go_round
       case rel => exact ⟨B,rfl,hms.2,HR2⟩
       case measure => exact hms.1
   · have hz:t.size = 0:=by omega
     have e:t = R:=by
       have h9:t.data.toList = []:=List.eq_nil_of_length_eq_zero (by omega)
       refine ba_ext ?_
       rw [<- HR.out,h9]; rfl
     subst e
     clear hl HR hd
     go_wp2
     go_ret
     exact ⟨rfl,rfl⟩
theorem trim_empty (c:UInt8):Ret 70 #[.string ⟨#[]⟩,.string ⟨#[c]⟩] (.string ⟨#[]⟩):=by
 intro w
 go_enter Tryd.func70,Tryd.ntmps70
 go_wp2_with fail
 go_ret
 exact ⟨rfl,rfl⟩
set_option maxHeartbeats 2000000 in
theorem trim_core (s A B:ByteArray) (hs:0 < s.size) (c:UInt8) (hc:c.toNat < 128) (c1:Ret 74 #[.string s,.int .u8 (c.toNat:Int)] (.string A)) (c2:Ret 73 #[.string A,.int .u8 (c.toNat:Int)] (.string B)):Mak 70 #[.string s,.string ⟨#[c]⟩] (.string B):=by
 intro w
 have b1:=some_bytes s hs
 have b2:=some_bytes_f s hs
 have h0:0 < (⟨#[c]⟩:ByteArray).size:=Nat.one_pos
 have t1:decide ((((⟨#[c]⟩:ByteArray)[0]'h0).toNat:Int) < 128) = true:=decide_eq_true (show (c.toNat:Int) < 128 by omega)
 replace c1:Ret 74 #[.string s,.int .u8 (((⟨#[c]⟩:ByteArray)[0]'h0).toNat:Int)] (.string A):=c1
 replace c2:Ret 73 #[.string A,.int .u8 (((⟨#[c]⟩:ByteArray)[0]'h0).toNat:Int)] (.string B):=c2
 clear hc
 go_enter Tryd.func70,Tryd.ntmps70
 go_wp2_with fail
 go_quiet (first | (go_at_call 74; with_reducible exact Calls.quiet_of_same (retStill c1 _)) | (go_at_call 73; with_reducible exact Calls.quiet_of_same (retStill c2 _)))
 go_wp2_with fail
 go_ret
 exact ⟨rfl,⟨rfl,rfl,rfl,Nat.le_refl _,fun _ _ => rfl⟩⟩
theorem trim_mak (s:ByteArray) (hm:s.size <= 140737488355328) (c:UInt8) (hc:c.toNat < 128) (Y:ByteArray) (hY:Y = bs (left c (right c s.data.toList))):Mak 70 #[.string s,.string ⟨#[c]⟩] (.string Y):=by
 subst hY
 by_cases hs:0 < s.size
 · have hr:(bs (right c s.data.toList)).size <= 140737488355328:=by
     show (bs (right c s.data.toList)).data.toList.length <= _
     rw [list_bs]
     unfold right left
     rw [List.length_reverse]
     have h1:=(List.dropWhile_sublist (l:=s.data.toList.reverse) (· == c)).length_le
     rw [List.length_reverse] at h1
     have h2:s.data.toList.length = s.size:=rfl
     omega
   exact trim_core s (bs (right c s.data.toList)) _ hs c hc (tright_ret c s hm _ (by rw [list_bs]) _ rfl) (tleft_ret c _ hr _ (by rw [list_bs,list_bs]) _ rfl)
 · obtain rfl:s = ⟨#[]⟩:=ba_ext (List.eq_nil_of_length_eq_zero (by have h8:s.size = s.data.toList.length:=rfl; omega))
   exact (trim_empty c).mak
end Trim
namespace RefDig
end RefDig
namespace Prn
def allB:List UInt8:=[65,66,67,68,69,70,71,72,73,74,75,76,77,78,79,80,81,82,83,84,85,86,87,88,89,90,97,98,99,100,101,102,103,104,105,106,107,108,109,110,111,112,113,114,115,116,117,118,119,120,121,122,48,49,50,51,52,53,54,55,56,57,32,39,40,41,43,44,45,46,47,58,61,63]
def okc (c:UInt8):Bool:=allB.any (· == c)
def prnB (l:List UInt8):Bool:=l.all okc
end Prn
end Go.Proofs.YtcdjfmlanicjlaaDoor
