import Derived.Test.YtcdjfmlanicjlaaGreatDoorSl4
import Derived.Lib.IndexLaws
import Derived.BigQuiet
set_option maxRecDepth 100000
namespace Go.Proofs.YtcdjfmlanicjlaaGreatDoor
open Go.RowKit
namespace Cut
theorem indexbyte_ret (s:ByteArray) (c:Int):Ret 79 #[.string s,.int .u8 c] (.int .i64 (Lib.indexByte s.data.toList c.toNat.toUInt8)):=by
 intro w
 go_enter Tryz.func79,Tryz.ntmps79
 go_wp2_with fail
 rw [run_callFunc_extern Tryz.func91 (by kernel_rfl) (by kernel_rfl) (by kernel_rfl) (e:=Extern.BytealgIndexByte.indexByte) (by kernel_rfl),Lib.run_indexByteString]
 simp only [Result.andThen]
 rw [Oper.upon_value]
 go_wp2_with fail
 go_ret
 exact ⟨rfl,rfl⟩
def At (l:List UInt8) (c:UInt8) (k:Nat):Prop:=l[k]? = some c /\ ∀ j,j < k -> l[j]? ≠ some c
theorem at_index (l:List UInt8) (c:UInt8) (k:Nat) (h:At l c k):Lib.indexByte l c = (k:Int):=by
 induction l generalizing k with
 | nil => simp [At] at h
 | cons b l ih =>
   unfold Lib.indexByte
   by_cases hb:b = c
   · subst hb
     rw [if_pos (beq_self_eq_true b)]
     cases k with
     | zero => rfl
     | succ k => exact absurd rfl (h.2 0 (by omega))
   · rw [if_neg (by simpa using hb)]
     cases k with
     | zero => have:=h.1; simp at this; exact absurd this hb
     | succ k =>
       have h2:At l c k:=⟨by have:=h.1; simpa using this,fun j hj => by have:=h.2 (j + 1) (by omega); simpa using this⟩
       rw [ih k h2]
       rw [if_neg (by rw [beq_iff_eq]; omega)]; omega
theorem none_index (l:List UInt8) (c:UInt8) (h:c ∉ l):Lib.indexByte l c = -1:=by
 induction l with
 | nil => rfl
 | cons b l ih =>
   unfold Lib.indexByte
   rw [if_neg (by rw [beq_iff_eq]; intro h2; exact h (by rw [h2]; simp)),ih (fun h2 => h (by simp [h2]))]; rfl
set_option maxHeartbeats 1000000 in
theorem index_ret (s:ByteArray) (c:UInt8) (p:Int) (hp:Lib.indexByte s.data.toList c = p):Ret 58 #[.string s,.string ⟨#[c]⟩] (.int .i64 p):=by
 intro w
 have c1:=indexbyte_ret s (c.toNat:Int)
 rw [show ((c.toNat:Int).toNat.toUInt8) = c from by simp,hp] at c1
 by_cases hs:s = ⟨#[c]⟩
 · have hp0:p = 0:=by rw [<- hp,hs]; unfold Lib.indexByte; rw [if_pos (beq_self_eq_true c)]
   subst hp0
   have t1:([c] == s.toList) = true:=by
     rw [hs,toList_d]; exact beq_self_eq_true _
   clear hp c1 hs
   go_enter Tryz.func58,Tryz.ntmps58
   go_wp2_with fail
   go_ret
   exact ⟨rfl,rfl⟩
 · have t1:([c] == s.toList) = false:=by
     rw [beq_eq_false_iff_ne,toList_d]
     intro h2
     exact hs (ba_ext h2.symm)
   clear hp hs
   go_enter Tryz.func58,Tryz.ntmps58
   go_wp2_with fail
   refine (c1).calls ?_
   go_wp2_with fail
   go_ret
   exact ⟨rfl,rfl⟩
set_option maxHeartbeats 1000000 in
theorem lite_at (s:ByteArray) (c:UInt8) (k:Nat) (hm:s.size <= 140737488355328) (h:At s.data.toList c k) (A B:ByteArray) (hA:A = s.extract 0 k) (hB:B = s.extract (k + 1) s.size):Mak 35 #[.string s,.string ⟨#[c]⟩] (.tuple #[.string A,.string B,.bool true]):=by
 intro w
 have H0:=lH (Since.refl w)
 have c1:=index_ret s c (k:Int) (at_index _ _ _ h)
 have hk:k < s.size:=(List.getElem?_eq_some_iff.1 h.1).1
 have e1:IntKind.i64.wrap ((k:Int) + 1) = ((k + 1:Nat):Int):=by rw [IntWalk.i64_in _ (by omega)]; omega
 have t1:decide ((0:Int) <= (k:Int)) = true:=decide_eq_true (by omega)
 have i1:(0:Int) <= (k:Int):=by omega
 have i2:(k:Int) <= (s.size:Int):=by omega
 have i3:(k:Int) + 1 <= (s.size:Int):=by omega
 have hA2:=hA.symm
 have hB2:=hB.symm
 clear h hA hB
 go_enter Tryz.func35,Tryz.ntmps35
 go_wp2_with fail
 refine (c1).calls ?_
 go_wp2_with fail
 go_quiet (fail)
 go_wp2_with fail
 go_ret3
 exact ⟨rfl,⟨rfl,rfl,rfl,Nat.le_refl _,fun _ _ => rfl⟩⟩
theorem lite_none (s:ByteArray) (c:UInt8) (h:c ∉ s.data.toList):Ret 35 #[.string s,.string ⟨#[c]⟩] (.tuple #[.string s,.string ⟨#[]⟩,.bool false]):=by
 intro w
 have c1:=index_ret s c (-1) (none_index _ _ h)
 clear h
 go_enter Tryz.func35,Tryz.ntmps35
 go_wp2_with fail
 refine (c1).calls ?_
 go_wp2_with fail
 go_ret3
 exact ⟨rfl,rfl⟩
theorem cut_at (s:ByteArray) (c:UInt8) (k:Nat) (hm:s.size <= 140737488355328) (h:At s.data.toList c k) (A B:ByteArray) (hA:A = s.extract 0 k) (hB:B = s.extract (k + 1) s.size):Mak 18 #[.string s,.string ⟨#[c]⟩] (.tuple #[.string A,.string B,.bool true]):=by
 intro w
 have H0:=lH (Since.refl w)
 have c1:=lite_at s c k hm h A B hA hB
 clear h hA hB
 go_enter Tryz.func18,Tryz.ntmps18
 go_wp2_with fail
 refine c1.calls H0.out ?_
 intro w1 h1
 have H1:=lH h1
 clear h1
 go_wp2_with fail
 go_ret3
 exact ⟨rfl,H1.out⟩
theorem cut_none (s:ByteArray) (c:UInt8) (h:c ∉ s.data.toList):Ret 18 #[.string s,.string ⟨#[c]⟩] (.tuple #[.string s,.string ⟨#[]⟩,.bool false]):=by
 intro w
 have c1:=lite_none s c h
 clear h
 go_enter Tryz.func18,Tryz.ntmps18
 go_wp2_with fail
 refine (c1).calls ?_
 go_wp2_with fail
 go_ret3
 exact ⟨rfl,rfl⟩
end Cut
end Go.Proofs.YtcdjfmlanicjlaaGreatDoor
