import Derived.Test.YtpanhhjkecebkaaGreatAq20
set_option maxRecDepth 100000
namespace Go.Proofs.YtpanhhjkecebkaaGreat
open Go.RowKit
namespace RefUtf
open Utf
end RefUtf
namespace Whole
open RefOct (low)
open Oct (numN trimL)
def rightL:List UInt8 -> Bool
 | [] => false
 | [_] => true
 | a :: b :: _ => !(decide (a.toNat = 0) && decide (b.toNat < 128)) && !(decide (a.toNat = 255) && decide (128 <= b.toNat))
def sg (l:List UInt8) (k:Nat):Int:=(numN (l.take k):Int) - if 128 <= (l.getD 0 0).toNat then 256 ^ k else 0
def sgn (l:List UInt8):Int:=sg l l.length
end Whole
namespace Whole
theorem ret_bool {b c:Bool} (h:b = c):Ending.returned (.bool b) = Ending.returned (.bool c):=by rw [h]
theorem get_at (s:ByteArray) (k:Nat) (h:k < s.size):s.data.toList[k]? = some s[k]:=by rw [List.getElem?_eq_getElem (show k < s.data.toList.length from h)]; rfl
theorem two_list (s:ByteArray) (h:1 < s.size):∃ l,s.data.toList = s[0] :: s[1] :: l:=by
 have h0:=get_at s 0 (by omega)
 have h1:=get_at s 1 h
 cases hl:s.data.toList with
 | nil => rw [hl] at h0; simp at h0
 | cons a m =>
   cases m with
   | nil => rw [hl] at h1; simp at h1
   | cons b m =>
     rw [hl] at h0 h1
     simp at h0 h1
     exact ⟨m,by rw [h0,h1]⟩
set_option maxHeartbeats 1000000 in
theorem right_ret (s:ByteArray) (hm:s.size <= 140737488355328) (B:Bool) (hB:B = rightL s.data.toList):Ret 110 #[.string s] (.bool B):=by
 intro w
 by_cases h0:s.size = 0
 · obtain rfl:s = ⟨#[]⟩:=ba_ext (List.eq_nil_of_length_eq_zero h0)
   have hB2:B = false:=hB
   subst hB2
   clear hB h0 hm
   go_enter Tryz.func110,Tryz.ntmps110
   go_wp2_with fail
   go_ret
   exact ⟨rfl,rfl⟩
 · by_cases h1:s.size = 1
   · have hB2:B = true:=by
       rw [hB]
       cases hl:s.data.toList with
       | nil => exact absurd (show s.data.toList.length = 0 by rw [hl]; rfl) h0
       | cons a m =>
         cases m with
         | nil => rfl
         | cons b m => have h9:s.data.toList.length = 1:=h1; rw [hl] at h9; simp at h9
     subst hB2
     have hne:=some_bytes s (by omega)
     have hne2:=some_bytes_f s (by omega)
     have hb1:((s.size:Int) == 1) = true:=by rw [h1]; rfl
     have hlt:s.size < 2:=by omega
     have hge:1 <= s.size:=by omega
     clear hB h0 h1
     go_enter Tryz.func110,Tryz.ntmps110
     go_wp2_with fail
     go_ret
     exact ⟨rfl,rfl⟩
   · have h2:1 < s.size:=by omega
     obtain ⟨l,hl⟩:=two_list s h2
     rw [hl] at hB
     have hne2:=some_bytes_f s (by omega)
     have hb1:((s.size:Int) == 1) = false:=by rw [beq_eq_false_iff_ne]; omega
     have hlt0:=s[0].toNat_lt
     have hlt1:=s[1].toNat_lt
     have hB':B = (!(decide (s[0].toNat = 0) && decide (s[1].toNat < 128)) && !(decide (s[0].toNat = 255) && decide (128 <= s[1].toNat))):=hB
     clear hB hl h0 h1
     by_cases a0:s[0].toNat = 0
     · have e1:((s[0].toNat:Int) == 0) = true:=by rw [a0]; rfl
       have e2:((s[0].toNat:Int) == 255) = false:=by rw [a0]; rfl
       have e3:((s[0].toNat:Int) != 255) = true:=by rw [a0]; rfl
       by_cases b1:s[1].toNat < 128
       · have d1:decide (128 <= (s[1].toNat:Int)) = false:=by simp; omega
         have hB2:B = false:=by rw [hB']; simp [a0,b1]
         subst hB2
         clear hB' a0
         go_enter Tryz.func110,Tryz.ntmps110
         go_wp2_with fail
         go_ret
         exact ⟨by first | rfl | exact ret_bool (by simp; omega),rfl⟩
       · have d1:decide (128 <= (s[1].toNat:Int)) = true:=by simp; omega
         have hB2:B = true:=by rw [hB']; simp [a0,b1]
         subst hB2
         clear hB' a0
         go_enter Tryz.func110,Tryz.ntmps110
         go_wp2_with fail
         go_ret
         exact ⟨by first | rfl | exact ret_bool (by simp; omega),rfl⟩
     · have e1:((s[0].toNat:Int) == 0) = false:=by rw [beq_eq_false_iff_ne]; omega
       by_cases a2:s[0].toNat = 255
       · have e2:((s[0].toNat:Int) == 255) = true:=by rw [a2]; rfl
         have e3:((s[0].toNat:Int) != 255) = false:=by rw [a2]; rfl
         by_cases b1:s[1].toNat < 128
         · have d1:decide (128 <= (s[1].toNat:Int)) = false:=by simp; omega
           have hB2:B = true:=by rw [hB']; simp [a2]; omega
           subst hB2
           clear hB' a0 a2
           go_enter Tryz.func110,Tryz.ntmps110
           go_wp2_with fail
           go_ret
           exact ⟨by first | rfl | exact ret_bool (by simp; omega),rfl⟩
         · have d1:decide (128 <= (s[1].toNat:Int)) = true:=by simp; omega
           have hB2:B = false:=by rw [hB']; simp [a2]; omega
           subst hB2
           clear hB' a0 a2
           go_enter Tryz.func110,Tryz.ntmps110
           go_wp2_with fail
           go_ret
           exact ⟨by first | rfl | exact ret_bool (by simp; omega),rfl⟩
       · have e2:((s[0].toNat:Int) == 255) = false:=by rw [beq_eq_false_iff_ne]; omega
         have e3:((s[0].toNat:Int) != 255) = true:=by rw [bne_iff_ne]; omega
         have hB2:B = true:=by rw [hB']; simp [a0,a2]
         subst hB2
         clear hB' a0 a2
         go_enter Tryz.func110,Tryz.ntmps110
         go_wp2_with fail
         go_ret
         exact ⟨by first | rfl | exact ret_bool (by simp; omega),rfl⟩
def decB (l:List UInt8):Bool:=rightL l && decide (l.length <= 8)
def decV (l:List UInt8):Int:=if decB l = true then sgn l else 0
end Whole
namespace Oct
end Oct
structure Cel (w:World) (b n:Nat) (f:Nat -> Value):Prop where
 lt:b < w.heap.size
 cell:∀ i,i < n -> w.cell? ⟨b,i,none⟩ = some (f i)
 free:∀ i,i < n -> w.frozen? ⟨b,i,none⟩ = false
def Apart (a b:Value):Prop:=∀ g,a.ownBlock = some g -> b.ownBlock ≠ some g
end Go.Proofs.YtpanhhjkecebkaaGreat
