import Derived.Test.YtddlaafpianjbaaGreatDoorBo16
set_option maxRecDepth 100000
namespace Go.Proofs.YtddlaafpianjbaaGreatDoor
open Go.RowKit
namespace Oct
def pc (l:List UInt8) (n i:Nat):ByteArray:=bs ((l.drop (n * i)).take n)
def pcs (l:List UInt8) (n m:Nat):List ByteArray:=(List.range m).map (pc l n)
theorem pcs_len (l:List UInt8) (n m:Nat):(pcs l n m).length = m:=by simp [pcs]
theorem pcs_succ (l:List UInt8) (n m:Nat):pcs l n (m + 1) = pcs l n m ++ [pc l n m]:=by simp [pcs,List.range_succ]
def strLen:Value -> Nat | .string r => r.size | _ => 0
theorem drop_ext (R:ByteArray) (l:List UInt8) (n k:Nat) (h:R.data.toList = l.drop (n * k)):(R.extract n R.size).data.toList = l.drop (n * (k + 1)):=by
 have h9:R.size = R.data.toList.length:=rfl
 rw [ext_list,h9,h,List.drop_drop,List.take_of_length_le (by simp; omega),Nat.mul_succ]
theorem take_ext (R:ByteArray) (l:List UInt8) (n k:Nat) (h:R.data.toList = l.drop (n * k)):R.extract 0 n = pc l n k:=by
 apply ba_ext
 rw [ext_list,h]; rfl
theorem len_ext (R:ByteArray) (l:List UInt8) (n k:Nat) (h:R.data.toList = l.drop (n * k)):R.size = l.length - n * k:=by
 have h9:R.size = R.data.toList.length:=rfl
 rw [h9,h,List.length_drop]
theorem pc_rest (R:ByteArray) (l:List UInt8) (n k:Nat) (h:R.data.toList = l.drop (n * k)) (hs:R.size <= n):R = pc l n k:=by
 apply ba_ext
 have h9:R.size = R.data.toList.length:=rfl
 show _ = (l.drop (n * k)).take n
 rw [List.take_of_length_le (by rw [<- h]; omega),h]
theorem ceil_last (S n k:Nat) (h1:1 <= n) (h2:n * k < S) (h3:S - n * k <= n):(S + n - 1) / n = k + 1:=by
 have h4:n * (k + 1) = n * k + n:=Nat.mul_succ _ _
 rw [Nat.div_eq_of_lt_le]
 · rw [Nat.mul_comm]; omega
 · rw [Nat.mul_comm,Nat.mul_succ]; omega
set_option maxHeartbeats 1000000 in
theorem pieces_mak (s:ByteArray) (n:Nat) (h1:1 <= n) (hn:n <= 9223372036854775807) (hm:s.size <= 1099511627776) (L:List ByteArray) (hL:L = pcs s.data.toList n ((s.size + n - 1) / n)):MakS 216 #[.string s,.int .i64 (n:Int)] L:=by
 intro w
 have HL:=lH hL
 clear hL
 have HM:=lH hm
 go_enter Tryz.func216,Tryz.ntmps216
 go_wp2
 go_loopw [0,5] (fun sv v wr => ∃ (k:Nat) (R:ByteArray),sv = .string R /\ R.size <= 1099511627776 /\ k <= 1099511627776 /\ Hid (R.data.toList = s.data.toList.drop (n * k)) /\ Hid (n * k < s.size ∨ k = 0) /\ Hid (wr.ownsRow w.heap.size 9 1 v k ((pcs s.data.toList n k).map Value.string)) /\ Hid (Since w wr)) (fun sv _ _ => strLen sv)
 case atStart => exact ⟨0,s,rfl,hm,by omega,lH (by simp),lH (Or.inr rfl),lH (World.ownsRow_nil _ _ _ _),lH (Since.refl w)⟩
 case round =>
   obtain ⟨k,R,rfl,hR,hk,HR,HK,HO,HS⟩:=hrel
   have hsz:=len_ext R s.data.toList n k HR.out
   have hkk:k <= n * k:=Nat.le_mul_of_pos_left _ h1
   by_cases hlt:n < R.size
   · have hn2:n * (k + 1) < s.size:=by
       have h9:s.size = s.data.toList.length:=rfl
       rw [Nat.mul_succ]; omega
     have hk2:k + 1 <= 1099511627776:=by
       have h9:k + 1 <= n * (k + 1):=Nat.le_mul_of_pos_left _ h1
       have:=HM.out
       omega
     have hsz2:(R.extract n R.size).size = R.size - n:=by simp
     have HN2:=lH hn2
     have HT:=lH (take_ext R _ n k HR.out)
     clear hn2 hsz hkk
     have hD:=drop_ext R _ n k HR.out
     have HD:=lH hD
     clear hD
     have Hsz2:=lH hsz2
     clear hsz2
     go_wp2_with (at_builtin; refine app_one elemS rfl _ _ rfl w wr _ k _ (by rfl) HO.out HS.out _ (by rfl) rfl hk (by decide) ?_)
     intro v' w2 hO2 hS2
     have HO2:=lH hO2
     clear hO2
     have HS2:=lH hS2
     clear hS2
     go_wp2_with fail
     go_roundw
     case rel => exact ⟨k + 1,_,rfl,by rw [Hsz2.out]; omega,by omega,HD,lH (Or.inl HN2.out),lH (by rw [pcs_succ,List.map_append,<- HT.out]; exact HO2.out),HS2⟩
     case measure => simp only [strLen]; rw [Hsz2.out]; omega
   · by_cases h0:R.size = 0
     · have hk0:k = 0:=by
         rcases HK.out with h | h
         · have h9:s.size = s.data.toList.length:=rfl
           omega
         · exact h
       subst hk0
       obtain rfl:R = ⟨#[]⟩:=ba_ext (List.eq_nil_of_length_eq_zero h0)
       have hs0:s.size = 0:=by
         have h9:s.size = s.data.toList.length:=rfl
         simp at hsz
         omega
       have hL2:L = []:=by rw [HL.out,hs0,Nat.div_eq_of_lt (by omega)]; rfl
       subst hL2
       have Hs0:=lH hs0
       clear hs0
       have Hsz:=lH hsz
       clear hsz
       have Hkk:=lH hkk
       clear hkk
       go_wp2_with fail
       go_ret
       exact ⟨_,rfl,HO.out,HS.out⟩
     · have hne:=some_bytes R (by omega)
       have hpc:=pc_rest R _ n k HR.out (by omega)
       have hlt2:n * k < s.size:=by
         rcases HK.out with h | h
         · exact h
         · subst h
           have h9:s.size = s.data.toList.length:=rfl
           simp at hsz ⊢
           omega
       have hL2:L = pcs s.data.toList n k ++ [R]:=by
         have h9:s.size = s.data.toList.length:=rfl
         rw [HL.out,ceil_last s.size n k h1 hlt2 (by omega),pcs_succ,<- hpc]
       subst hL2
       have Hpc:=lH hpc
       clear hpc
       have Hlt2:=lH hlt2
       clear hlt2
       have Hsz:=lH hsz
       clear hsz
       have Hkk:=lH hkk
       clear hkk
       go_wp2_with (at_builtin; refine app_one elemS rfl _ _ rfl w wr _ k _ (by rfl) HO.out HS.out _ (by rfl) rfl hk (by decide) ?_)
       intro v' w2 hO2 hS2
       have HO2:=lH hO2
       clear hO2
       have HS2:=lH hS2
       clear hS2
       go_wp2_with fail
       go_ret
       exact ⟨_,rfl,by have h7:=HO2.out; unfold Strs; rw [List.map_append,List.length_append,pcs_len]; exact h7,HS2.out⟩
end Oct
namespace RefOct
theorem one_ext (s:ByteArray) (j:Nat) (h:j < s.size):(s.extract j (j + 1)).data.toList = [s[j]]:=by
 rw [ext_list,Nat.add_sub_cancel_left,List.drop_eq_getElem_cons (show j < s.data.toList.length from h)]
 rfl
set_option maxHeartbeats 400000 in
theorem zeros_yes (n:Nat) (h1:1 <= n) (h2:n <= 65552):Mak 130 #[.int .i64 (n:Int)] (.string (strOfNums (List.replicate n 0))):=by
 intro w
 have hmk:∀ w:World,(Instr.makeSlice 114 (.int .i64 (n:Int)) (.int .i64 (n:Int))).run Tryz.prog w = .ok (.slice (some ⟨w.heap.size,0,none⟩) n n) (w.alloc (.cells (madeCells #[.int .u8 0] n) 5)):=fun w =>
   run_make_row' (P:=Tryz.prog) 114 5 (.int .u8 0) 1 Tryz.underlying114 info5 rfl .i64 .i64 n (by omega) (by omega) w
 have g:=run_convert_bytes_arg (P:=Tryz.prog) (w.alloc (.cells (madeCells #[.int .u8 0] n) 5)) 114 5 Tryz.underlying114 Tryz.underlying5 w.heap.size 0 n n (List.replicate n 0) (by simp) (fun i hi => by
       rw [Nat.zero_add,(World.rowIs_made w (.int .u8 0) n 5).cell hi]; simp [hi]) 9 Tryz.underlying9
 go_enter Tryz.func130,Tryz.ntmps130
 go_wp2
 go_ret
 exact ⟨rfl,(Below.refl _ _).alloc (Nat.le_refl _) _⟩
set_option maxHeartbeats 400000 in
theorem zeros_no (n:Int) (h:n < 1 ∨ 65552 < n):Ret 130 #[.int .i64 n] (.string ⟨#[]⟩):=by
 intro w
 rcases h with h | h
 · go_enter Tryz.func130,Tryz.ntmps130
   go_wp2
   go_ret
   exact ⟨rfl,rfl⟩
 · have h':¬ n < 1:=by omega
   go_enter Tryz.func130,Tryz.ntmps130
   go_wp2
   go_ret
   exact ⟨rfl,rfl⟩
theorem zeros_app (s:ByteArray) (n:Nat):s ++ strOfNums (List.replicate n 0) = bs (s.data.toList ++ List.replicate n 0):=by
 apply ba_ext
 rw [app_list,show (strOfNums (List.replicate n 0)).data.toList = List.replicate n 0 from by rw [nums_list]; simp,list_bs]
set_option maxHeartbeats 1000000 in
theorem pad_yes (s:ByteArray) (n:Nat) (hm:s.size <= 1099511627776) (h1:1 <= n) (h2:n <= 65535) (m:Nat) (hm1:(s.size + m) % n = 0) (hm2:∀ k,k < m -> (s.size + k) % n ≠ 0) (hm3:m <= 65535) :
   Mak 131 #[.string s,.int .i64 (n:Int)] (.string (bs (s.data.toList ++ List.replicate m 0))):=by
 intro w
 have H1:=lH hm1
 have H2:=lH hm2
 clear hm1 hm2
 have HS:=lH (Since.refl w)
 have hn1:(1:Int) <= (n:Int):=by omega
 go_enter Tryz.func131,Tryz.ntmps131
 go_wp2
 go_loop [5] (fun i => ∃ k:Nat,k <= m /\ i = .int .i64 (k:Int)) (fun i => m - (intOf i).toNat)
 case atStart => exact ⟨0,by omega,rfl⟩
 case round =>
   obtain ⟨k,hk,rfl⟩:=hrel
   by_cases hlt:k < m
   · have hb:(((s.size:Int) + (k:Int)) % (n:Int) != 0) = true:=by
       have h3:((s.size:Int) + (k:Int)) % (n:Int) = (((s.size + k) % n:Nat):Int):=by simp
       rw [h3,bne_iff_ne]
       have:=H2.out k hlt
       omega
     go_wp2_with fail
     go_round
     case rel => exact ⟨k + 1,by omega,by go_num⟩
     case measure => simp [intOf]; omega
   · obtain rfl:k = m:=by omega
     have hb:(((s.size:Int) + (k:Int)) % (n:Int) != 0) = false:=by
       have h3:((s.size:Int) + (k:Int)) % (n:Int) = (((s.size + k) % n:Nat):Int):=by simp
       rw [h3,H1.out]; rfl
     by_cases h0:k = 0
     · subst h0
       have hb0:((s.size:Int) % (n:Int) != 0) = false:=by simpa using hb
       go_wp2_with fail
       refine (zeros_no 0 (Or.inl (by decide))).calls ?_
       go_wp2_with fail
       go_ret
       exact ⟨congrArg (fun x => Ending.returned (.string x)) (ba_ext (by rw [app_list,list_bs]; simp)),HS.out⟩
     · go_wp2_with fail
       refine (zeros_yes k (by omega) (by omega)).calls HS.out ?_
       intro w1 h1
       have H1:=lH h1
       clear h1
       have hsz:¬ 9223372036854775807 < s.size + (strOfNums (List.replicate k 0)).size:=by rw [strOfNums_size]; simp; omega
       go_wp2_with fail
       go_ret
       rw [zeros_app]
       exact ⟨rfl,H1.out⟩
end RefOct
end Go.Proofs.YtddlaafpianjbaaGreatDoor
