import Derived.Test.YtpanhhjkecebkaaGreatPt30
import Derived.Test.YtpanhhjkecebkaaGreatPt21
import Derived.Test.YtpanhhjkecebkaaGreatPt26
import Derived.Test.YtpanhhjkecebkaaGreatPt35
set_option maxRecDepth 100000
namespace Go.Proofs.YtpanhhjkecebkaaGreat
open Go.RowKit
namespace Strs
open Oct Utf Prn
def tags:List Int:=[1,2,3,4,5,6,12,19]
def rightB (tag:Int) (c:ByteArray):Bool :=
 if tag = 1 then decide (c = sYes ∨ c = sNo) else if tag = 2 then Whole.rightL c.data.toList else if tag = 3 then decide (UnbOk c) else if tag = 4 then true
 else if tag = 5 then decide (c = ⟨#[]⟩) else if tag = 6 then Oid.decB c.data.toList else if tag = 12 then utfB c.data.toList else if tag = 19 then prnB c.data.toList else false
theorem right_q1 (c:ByteArray):Ret 169 #[.string c] (.tuple #[.bool (decide (c = sYes)),.bool (decide (c = sYes ∨ c = sNo))]):=unbool_ret c
theorem right_q2 (c:ByteArray) (hm:c.size <= 1000000) (q:Bool) (hq:q = Whole.rightL c.data.toList):Ret 110 #[.string c] (.bool q):=Whole.right_ret c (by omega) q hq
theorem right_q3 (c:ByteArray) (hm:c.size <= 1000000):Mak 170 #[.string c] (unbT c):=unbits_mak c hm
theorem right_q6 (c:ByteArray) (hm:c.size <= 1000000) (xs:List Int) (q:Bool) (hx:xs = Oid.decL c.data.toList) (hq:q = Oid.decB c.data.toList):MkI 61 #[.string c] xs q:=Oid.decode_mk c hm xs q hx hq
theorem right_q12 (c:ByteArray) (hm:c.size <= 1000000) (q:Bool) (hq:q = utfB c.data.toList):Mak 171 #[.string c] (.bool q):=utf_mak c hm q hq
theorem right_q19 (c:ByteArray) (hm:c.size <= 1000000) (q:Bool) (hq:q = prnB c.data.toList):Mak 172 #[.string c] (.bool q):=printable_mak c hm q hq
theorem rright_q1 (c:ByteArray):Ret 173 #[.string c] (.tuple #[.bool (decide (c = sYes)),.bool (decide (c = sYes ∨ c = sNo))]):=runbool_ret c
theorem rright_q2 (c:ByteArray) (hm:c.size <= 1000000) (q:Bool) (hq:q = Whole.rightL c.data.toList):Ret 174 #[.string c] (.bool q):=Whole.rright_ret c (by omega) q hq
theorem rright_q3 (c:ByteArray) (hm:c.size <= 1000000):Mak 175 #[.string c] (unbT c):=RefStrs.unbits_mak c hm
theorem rright_q6 (c:ByteArray) (hm:c.size <= 1000000) (xs:List Int) (q:Bool) (hx:xs = Oid.decL c.data.toList) (hq:q = Oid.decB c.data.toList):MkI 64 #[.string c] xs q:=Oid.rdecode_mk c hm xs q hx hq
theorem rright_q12 (c:ByteArray) (hm:c.size <= 1000000) (q:Bool) (hq:q = utfB c.data.toList):Mak 176 #[.string c] (.bool q):=(RefUtf.utf_ret c hm q hq).mak
theorem rright_q19 (c:ByteArray) (hm:c.size <= 1000000) (q:Bool) (hq:q = prnB c.data.toList):Mak 177 #[.string c] (.bool q):=prn_mak c hm q hq
theorem right_1 (c:ByteArray) (q:Bool) (p:Bool) (c1:Ret 169 #[.string c] (.tuple #[.bool p,.bool q])):Mak 163 #[.int .i64 1,.string c] (.bool q):=by
 intro w;have HS:=lH (Since.refl w)
 go_enter Tryz.func163,Tryz.ntmps163
 go_wp2_with fail
 (refine c1.calls ?_; go_wp2_with fail)
 go_ret;exact ⟨rfl,HS.out⟩
theorem right_2 (c:ByteArray) (q:Bool) (c1:Ret 110 #[.string c] (.bool q)):Mak 163 #[.int .i64 2,.string c] (.bool q):=by
 intro w;have HS:=lH (Since.refl w)
 go_enter Tryz.func163,Tryz.ntmps163
 go_wp2_with fail
 (refine c1.calls ?_; go_wp2_with fail)
 go_ret;exact ⟨rfl,HS.out⟩
theorem right_3 (c:ByteArray) (q:Bool) (X:ByteArray) (n:Int) (c1:Mak 170 #[.string c] (.tuple #[.string X,.int .i64 n,.bool q])):Mak 163 #[.int .i64 3,.string c] (.bool q):=by
 intro w;have HS:=lH (Since.refl w)
 go_enter Tryz.func163,Tryz.ntmps163
 go_wp2_with fail
 (refine c1.calls HS.out ?_; intro w1 h1; have H1:=lH h1; clear h1; go_wp2_with fail)
 go_ret;exact ⟨rfl,H1.out⟩
theorem right_4 (c:ByteArray) (q:Bool) (hq:q = true):Mak 163 #[.int .i64 4,.string c] (.bool q):=by
 intro w;have HS:=lH (Since.refl w)
 go_enter Tryz.func163,Tryz.ntmps163
 go_wp2_with fail;subst hq;go_ret;exact ⟨rfl,HS.out⟩
theorem right_6 (c:ByteArray) (q:Bool) (xs:List Int) (c1:MkI 61 #[.string c] xs q):Mak 163 #[.int .i64 6,.string c] (.bool q):=by
 intro w;have HS:=lH (Since.refl w)
 go_enter Tryz.func163,Tryz.ntmps163
 go_wp2_with fail
 (refine c1.calls0 ?_; intro v w1 _ h1; have H1:=lH h1; clear h1; go_wp2_with fail)
 go_ret;exact ⟨rfl,H1.out⟩
theorem right_12 (c:ByteArray) (q:Bool) (c1:Mak 171 #[.string c] (.bool q)):Mak 163 #[.int .i64 12,.string c] (.bool q):=by
 intro w;have HS:=lH (Since.refl w)
 go_enter Tryz.func163,Tryz.ntmps163
 go_wp2_with fail
 (refine c1.calls HS.out ?_; intro w1 h1; have H1:=lH h1; clear h1; go_wp2_with fail)
 go_ret;exact ⟨rfl,H1.out⟩
theorem right_19 (c:ByteArray) (q:Bool) (c1:Mak 172 #[.string c] (.bool q)):Mak 163 #[.int .i64 19,.string c] (.bool q):=by
 intro w;have HS:=lH (Since.refl w)
 go_enter Tryz.func163,Tryz.ntmps163
 go_wp2_with fail
 (refine c1.calls HS.out ?_; intro w1 h1; have H1:=lH h1; clear h1; go_wp2_with fail)
 go_ret;exact ⟨rfl,H1.out⟩
theorem right_5 (c:ByteArray):Mak 163 #[.int .i64 5,.string c] (.bool (decide (c = ⟨#[]⟩))):=by
 intro w;have HS:=lH (Since.refl w)
 by_cases h:c = ⟨#[]⟩
 · subst h;rw [decide_eq_true rfl]
   go_enter Tryz.func163,Tryz.ntmps163
   go_wp2_with fail;go_ret;exact ⟨rfl,HS.out⟩
 · rw [decide_eq_false h];have hp:0 < c.size:=by
     apply Nat.pos_of_ne_zero
     intro h9;exact h (ba_ext (List.eq_nil_of_length_eq_zero h9))
   have b1:=some_bytes c hp;have b2:=some_bytes_f c hp;clear h
   go_enter Tryz.func163,Tryz.ntmps163
   go_wp2_with fail;go_ret;exact ⟨rfl,HS.out⟩
theorem right_no (t:Int) (c:ByteArray) (h:t ∉ tags):Mak 163 #[.int .i64 t,.string c] (.bool false):=by
 intro w;have HS:=lH (Since.refl w);simp only [tags,List.mem_cons,List.not_mem_nil,or_false,not_or] at h;obtain ⟨h1,h2,h3,h4,h5,h6,h7,h8⟩:=h;have a1:(t == 1) = false:=by rw [beq_eq_false_iff_ne]; exact h1
 have a2:(t == 2) = false:=by rw [beq_eq_false_iff_ne]; exact h2
 have a3:(t == 3) = false:=by rw [beq_eq_false_iff_ne]; exact h3
 have a4:(t == 4) = false:=by rw [beq_eq_false_iff_ne]; exact h4
 have a5:(t == 5) = false:=by rw [beq_eq_false_iff_ne]; exact h5
 have a6:(t == 6) = false:=by rw [beq_eq_false_iff_ne]; exact h6
 have a7:(t == 12) = false:=by rw [beq_eq_false_iff_ne]; exact h7
 have a8:(t == 19) = false:=by rw [beq_eq_false_iff_ne]; exact h8
 clear h1 h2 h3 h4 h5 h6 h7 h8
 go_enter Tryz.func163,Tryz.ntmps163
 go_wp2_with fail;go_ret;exact ⟨rfl,HS.out⟩
theorem right_mak (t:Int) (c:ByteArray) (hm:c.size <= 1000000):Mak 163 #[.int .i64 t,.string c] (.bool (rightB t c)):=by
 by_cases h:t ∈ tags
 · simp only [tags,List.mem_cons,List.not_mem_nil,or_false] at h;rcases h with rfl | rfl | rfl | rfl | rfl | rfl | rfl | rfl
   · exact right_1 c _ _ (right_q1 c)
   · exact right_2 c _ (right_q2 c hm _ rfl)
   · exact right_3 c _ _ _ (right_q3 c hm)
   · exact right_4 c _ rfl
   · exact right_5 c
   · exact right_6 c _ _ (right_q6 c hm _ _ rfl rfl)
   · exact right_12 c _ (right_q12 c hm _ rfl)
   · exact right_19 c _ (right_q19 c hm _ rfl)
 · have e:rightB t c = false:=by
     simp only [tags,List.mem_cons,List.not_mem_nil,or_false,not_or] at h;obtain ⟨h1,h2,h3,h4,h5,h6,h7,h8⟩:=h;unfold rightB;rw [if_neg h1,if_neg h2,if_neg h3,if_neg h4,if_neg h5,if_neg h6,if_neg h7,if_neg h8]
   rw [e];exact right_no t c h
theorem rright_1 (c:ByteArray) (q:Bool) (p:Bool) (c1:Ret 173 #[.string c] (.tuple #[.bool p,.bool q])):Mak 164 #[.int .i64 1,.string c] (.bool q):=by
 intro w;have HS:=lH (Since.refl w)
 go_enter Tryz.func164,Tryz.ntmps164
 go_wp2_with fail
 (refine c1.calls ?_; go_wp2_with fail)
 go_ret;exact ⟨rfl,HS.out⟩
theorem rright_2 (c:ByteArray) (q:Bool) (c1:Ret 174 #[.string c] (.bool q)):Mak 164 #[.int .i64 2,.string c] (.bool q):=by
 intro w;have HS:=lH (Since.refl w)
 go_enter Tryz.func164,Tryz.ntmps164
 go_wp2_with fail
 (refine c1.calls ?_; go_wp2_with fail)
 go_ret;exact ⟨rfl,HS.out⟩
theorem rright_3 (c:ByteArray) (q:Bool) (X:ByteArray) (n:Int) (c1:Mak 175 #[.string c] (.tuple #[.string X,.int .i64 n,.bool q])):Mak 164 #[.int .i64 3,.string c] (.bool q):=by
 intro w;have HS:=lH (Since.refl w)
 go_enter Tryz.func164,Tryz.ntmps164
 go_wp2_with fail
 (refine c1.calls HS.out ?_; intro w1 h1; have H1:=lH h1; clear h1; go_wp2_with fail)
 go_ret;exact ⟨rfl,H1.out⟩
theorem rright_4 (c:ByteArray) (q:Bool) (hq:q = true):Mak 164 #[.int .i64 4,.string c] (.bool q):=by
 intro w;have HS:=lH (Since.refl w)
 go_enter Tryz.func164,Tryz.ntmps164
 go_wp2_with fail;subst hq;go_ret;exact ⟨rfl,HS.out⟩
theorem rright_6 (c:ByteArray) (q:Bool) (xs:List Int) (c1:MkI 64 #[.string c] xs q):Mak 164 #[.int .i64 6,.string c] (.bool q):=by
 intro w;have HS:=lH (Since.refl w)
 go_enter Tryz.func164,Tryz.ntmps164
 go_wp2_with fail
 (refine c1.calls0 ?_; intro v w1 _ h1; have H1:=lH h1; clear h1; go_wp2_with fail)
 go_ret;exact ⟨rfl,H1.out⟩
theorem rright_12 (c:ByteArray) (q:Bool) (c1:Mak 176 #[.string c] (.bool q)):Mak 164 #[.int .i64 12,.string c] (.bool q):=by
 intro w;have HS:=lH (Since.refl w)
 go_enter Tryz.func164,Tryz.ntmps164
 go_wp2_with fail
 (refine c1.calls HS.out ?_; intro w1 h1; have H1:=lH h1; clear h1; go_wp2_with fail)
 go_ret;exact ⟨rfl,H1.out⟩
theorem rright_19 (c:ByteArray) (q:Bool) (c1:Mak 177 #[.string c] (.bool q)):Mak 164 #[.int .i64 19,.string c] (.bool q):=by
 intro w;have HS:=lH (Since.refl w)
 go_enter Tryz.func164,Tryz.ntmps164
 go_wp2_with fail
 (refine c1.calls HS.out ?_; intro w1 h1; have H1:=lH h1; clear h1; go_wp2_with fail)
 go_ret;exact ⟨rfl,H1.out⟩
theorem rright_5 (c:ByteArray):Mak 164 #[.int .i64 5,.string c] (.bool (decide (c = ⟨#[]⟩))):=by
 intro w;have HS:=lH (Since.refl w)
 by_cases h:c = ⟨#[]⟩
 · subst h;rw [decide_eq_true rfl]
   go_enter Tryz.func164,Tryz.ntmps164
   go_wp2_with fail;go_ret;exact ⟨rfl,HS.out⟩
 · rw [decide_eq_false h];have hp:0 < c.size:=by
     apply Nat.pos_of_ne_zero
     intro h9;exact h (ba_ext (List.eq_nil_of_length_eq_zero h9))
   have b1:=some_bytes c hp;have b2:=some_bytes_f c hp;clear h
   go_enter Tryz.func164,Tryz.ntmps164
   go_wp2_with fail;go_ret;exact ⟨rfl,HS.out⟩
theorem rright_no (t:Int) (c:ByteArray) (h:t ∉ tags):Mak 164 #[.int .i64 t,.string c] (.bool false):=by
 intro w;have HS:=lH (Since.refl w);simp only [tags,List.mem_cons,List.not_mem_nil,or_false,not_or] at h;obtain ⟨h1,h2,h3,h4,h5,h6,h7,h8⟩:=h;have a1:(t == 1) = false:=by rw [beq_eq_false_iff_ne]; exact h1
 have a2:(t == 2) = false:=by rw [beq_eq_false_iff_ne]; exact h2
 have a3:(t == 3) = false:=by rw [beq_eq_false_iff_ne]; exact h3
 have a4:(t == 4) = false:=by rw [beq_eq_false_iff_ne]; exact h4
 have a5:(t == 5) = false:=by rw [beq_eq_false_iff_ne]; exact h5
 have a6:(t == 6) = false:=by rw [beq_eq_false_iff_ne]; exact h6
 have a7:(t == 12) = false:=by rw [beq_eq_false_iff_ne]; exact h7
 have a8:(t == 19) = false:=by rw [beq_eq_false_iff_ne]; exact h8
 clear h1 h2 h3 h4 h5 h6 h7 h8
 go_enter Tryz.func164,Tryz.ntmps164
 go_wp2_with fail;go_ret;exact ⟨rfl,HS.out⟩
theorem rright_mak (t:Int) (c:ByteArray) (hm:c.size <= 1000000):Mak 164 #[.int .i64 t,.string c] (.bool (rightB t c)):=by
 by_cases h:t ∈ tags
 · simp only [tags,List.mem_cons,List.not_mem_nil,or_false] at h;rcases h with rfl | rfl | rfl | rfl | rfl | rfl | rfl | rfl
   · exact rright_1 c _ _ (rright_q1 c)
   · exact rright_2 c _ (rright_q2 c hm _ rfl)
   · exact rright_3 c _ _ _ (rright_q3 c hm)
   · exact rright_4 c _ rfl
   · exact rright_5 c
   · exact rright_6 c _ _ (rright_q6 c hm _ _ rfl rfl)
   · exact rright_12 c _ (rright_q12 c hm _ rfl)
   · exact rright_19 c _ (rright_q19 c hm _ rfl)
 · have e:rightB t c = false:=by
     simp only [tags,List.mem_cons,List.not_mem_nil,or_false,not_or] at h;obtain ⟨h1,h2,h3,h4,h5,h6,h7,h8⟩:=h;unfold rightB;rw [if_neg h1,if_neg h2,if_neg h3,if_neg h4,if_neg h5,if_neg h6,if_neg h7,if_neg h8]
   rw [e];exact rright_no t c h
end Strs
end Go.Proofs.YtpanhhjkecebkaaGreat
