import Derived.Test.YtpanhhjkecebkaaGreatAp18
import Derived.Test.YtpanhhjkecebkaaGreatAp21
import Derived.Laws.AppendOwnNone
set_option maxRecDepth 100000
namespace Go.Proofs.YtpanhhjkecebkaaGreat
open Go.RowKit
namespace Setof
def dl (s:ByteArray):List UInt8:=s.data.toList
def lt2 (l:List ByteArray) (i j:Nat):Bool:=match l[i]?,l[j]? with | some a,some b => ltB (dl a) (dl b) | _,_ => false
theorem lt2_at (l:List ByteArray) (i j:Nat) (a b:ByteArray) (h1:l[i]? = some a) (h2:l[j]? = some b):lt2 l i j = ltB (dl a) (dl b):=by unfold lt2; rw [h1,h2]
def bestN (l:List ByteArray):Nat -> Nat
 | 0 => 0
 | 1 => 0
 | k+2 => if lt2 l (k + 1) (bestN l (k + 1)) then k + 1 else bestN l (k + 1)
theorem bestN_lt (l:List ByteArray) (k:Nat):bestN l (k + 1) < k + 1:=by
 induction k with
 | zero => exact Nat.zero_lt_one
 | succ k ih =>
   show (if lt2 l (k + 1) (bestN l (k + 1)) then k + 1 else bestN l (k + 1)) < k + 2
   split <;> omega
theorem bestN_min (l:List ByteArray) (k:Nat) (hk:k + 1 <= l.length):∀ j,j < k + 1 -> lt2 l j (bestN l (k + 1)) = false:=by
 induction k with
 | zero =>
   intro j hj
   obtain rfl:j = 0:=by omega
   obtain ⟨a,ha⟩:∃ a,l[0]? = some a:=⟨l[0]'(by omega),List.getElem?_eq_getElem _⟩
   show lt2 l 0 0 = false
   rw [lt2_at l 0 0 a a ha ha]; exact ltB_irrefl _
 | succ k ih =>
   intro j hj
   have hb:=bestN_lt l k
   obtain ⟨a,ha⟩:∃ a,l[k+1]? = some a:=⟨l[k+1]'(by omega),List.getElem?_eq_getElem _⟩
   obtain ⟨b,hbb⟩:∃ b,l[bestN l (k+1)]? = some b:=⟨l[bestN l (k+1)]'(by omega),List.getElem?_eq_getElem _⟩
   obtain ⟨c,hc⟩:∃ c,l[j]? = some c:=⟨l[j]'(by omega),List.getElem?_eq_getElem _⟩
   have hab:=lt2_at l _ _ a b ha hbb
   show lt2 l j (if lt2 l (k + 1) (bestN l (k + 1)) then k + 1 else bestN l (k + 1)) = false
   by_cases h:lt2 l (k + 1) (bestN l (k + 1)) = true
   · rw [if_pos h,lt2_at l _ _ c a hc ha]
     by_cases e:j = k + 1
     · subst e
       rw [ha] at hc; cases hc
       exact ltB_irrefl _
     · have h2:=ih (by omega) j (by omega)
       rw [lt2_at l _ _ c b hc hbb] at h2
       rw [hab] at h
       exact ltB_ntrans _ _ _ h2 (ltB_asymm _ _ h)
   · rw [if_neg h,lt2_at l _ _ c b hc hbb]
     by_cases e:j = k + 1
     · subst e
       rw [ha] at hc; cases hc
       rw [hab] at h
       simpa using h
     · have h2:=ih (by omega) j (by omega)
       rw [lt2_at l _ _ c b hc hbb] at h2
       exact h2
def srtB (l:List ByteArray):List ByteArray:=(srt (l.map dl)).map bs
theorem bs_dl (l:List ByteArray):(l.map dl).map bs = l:=by
 rw [List.map_map]
 exact (List.map_congr_left (fun s _ => bs_list s)).trans (List.map_id l)
theorem dl_bs (l:List (List UInt8)):(l.map bs).map dl = l:=by
 rw [List.map_map]
 exact (List.map_congr_left (fun s _ => list_bs s)).trans (List.map_id l)
theorem srtB_of (l m:List ByteArray) (hp:m.Perm l) (hm:(m.map dl).Pairwise up):m = srtB l:=by
 unfold srtB
 rw [<- srt_of (l.map dl) (m.map dl) (hp.map dl) hm,bs_dl]
theorem srtB_perm (l:List ByteArray):(srtB l).Perm l:=by
 have h:=(srt_perm (l.map dl)).map bs
 rw [bs_dl] at h
 exact h
theorem srtB_up (l:List ByteArray):((srtB l).map dl).Pairwise up:=by unfold srtB; rw [dl_bs]; exact srt_up _
theorem srtB_len (l:List ByteArray):(srtB l).length = l.length:=(srtB_perm l).length_eq
structure SInv (l L O:List ByteArray):Prop where
 perm:(O ++ L).Perm l
 ord:(O.map dl).Pairwise up
 le:∀ x ∈ O,∀ y ∈ L,up (dl x) (dl y)
theorem SInv.start (l:List ByteArray):SInv l l []:=⟨List.Perm.refl _,List.Pairwise.nil,fun x hx => by cases hx⟩
theorem take_drop_at (L:List ByteArray) (b:Nat) (s:ByteArray) (h:L[b]? = some s):L = L.take b ++ s :: L.drop (b + 1):=by
 obtain ⟨h1,h2⟩:=List.getElem?_eq_some_iff.1 h
 rw [<- h2,<- List.drop_eq_getElem_cons h1,List.take_append_drop]
theorem SInv.step {l L O:List ByteArray} (h:SInv l L O) (b:Nat) (s:ByteArray) (hb:L[b]? = some s) (hmin:∀ y ∈ L,up (dl s) (dl y)):SInv l (L.take b ++ L.drop (b + 1)) (O ++ [s]):=by
 have e:=take_drop_at L b s hb
 have hsub:∀ y ∈ L.take b ++ L.drop (b + 1),y ∈ L:=by
   intro y hy
   rcases List.mem_append.1 hy with hy | hy
   · exact List.mem_of_mem_take hy
   · exact List.mem_of_mem_drop hy
 have hsL:s ∈ L:=List.mem_of_getElem? hb
 refine ⟨?_, ?_, ?_⟩
 · refine List.Perm.trans ?_ h.perm
   have h2:(O ++ L).Perm (O ++ (s :: (L.take b ++ L.drop (b + 1)))):=by
     refine List.Perm.append_left O ?_
     conv => lhs; rw [e]
     exact List.perm_middle
   have h3:O ++ [s] ++ (L.take b ++ L.drop (b + 1)) = O ++ (s :: (L.take b ++ L.drop (b + 1))):=by simp
   rw [h3]
   exact h2.symm
 · rw [List.map_append,List.pairwise_append]
   refine ⟨h.ord,by simp,fun x hx y hy => ?_⟩
   obtain ⟨x',hx',rfl⟩:=List.mem_map.1 hx
   obtain rfl:y = dl s:=by simpa using hy
   exact h.le x' hx' s hsL
 · intro x hx y hy
   rcases List.mem_append.1 hx with hx | hx
   · exact h.le x hx y (hsub y hy)
   · obtain rfl:x = s:=by simpa using hx
     exact hmin y (hsub y hy)
theorem SInv.done {l O:List ByteArray} (h:SInv l [] O):O = srtB l:=srtB_of l O (by have:=h.perm; rw [List.append_nil] at this; exact this) h.ord
theorem best_least (L:List ByteArray) (k:Nat) (hk:L.length = k + 1) (s:ByteArray) (hs:L[bestN L (k + 1)]? = some s):∀ y ∈ L,up (dl s) (dl y):=by
 intro y hy
 obtain ⟨j,hj,hy2⟩:=List.mem_iff_getElem.1 hy
 have hjy:L[j]? = some y:=by rw [List.getElem?_eq_getElem hj,hy2]
 have:=bestN_min L k (by omega) j (by omega)
 rw [lt2_at L _ _ y s hjy hs] at this
 exact this
def sliceLen:Value -> Nat
 | .slice _ n _ => n
 | _ => 0
theorem step_append_row {P:Program} {ops:Array Oper} {o:Oper} {a:Act} {w:World} {K:Act -> World -> Prop} {Q:Exit -> Act -> World -> Prop} {E:Prop}
   (hg:o.guard = none) (s x:Operand) (t:TypeId) (hop:o.op = Op.call { callee:=Callee.builtin Builtin.append,args:=#[s,x],argTypes:=#[t,t] })
   (e:TypeId) (i:TypeInfo) (h1:P.underlying t = some (.slice e)) (h2:P.info? e = some i) (h4:i.size = 1)
   (g n cap:Nat) (cur:Array Value) (hgc:w.heap[g]? = some (.cells cur e (0,0))) (hs:a.eval s = .slice (some ⟨g,0,none⟩) n cap)
   (ad:Addr) (m c:Nat) (news:List Value) (hx:a.eval x = .slice (some ad) m c) (hn:news.length = m) (hc:∀ j u,news[j]? = some u -> w.cell? (ad.add j) = some u) (h1c:∀ u ∈ news,u.oneCell' = true)
   (hroom:n + m <= cap) (hfit:n + news.length <= cur.size)
   (R:Array Value) (hR:(cur.toList.take n ++ news ++ cur.toList.drop (n + news.length)).toArray = R)
   (hK:K (a.put o.dst (.slice (some ⟨g,0,none⟩) (n + m) cap)) (w.setRow g R)) :
   if Region.wanted o (yielded ops a.tmps) = true then Oper.wp P o a w K Q else E:=by
 subst hR
 have hw:Region.wanted o (yielded ops a.tmps) = true:=by simp [Region.wanted,hg]
 rw [if_pos hw]
 have hrun:=run_append_room (P:=P) w t o.type e i h1 h2 g n cap cur hgc ad m c news (by rw [h4,Nat.mul_one]; exact hn) hc h1c hroom (by rw [h4,Nat.mul_one]; exact hfit)
 rw [h4,Nat.mul_one] at hrun
 unfold Oper.wp
 simp [execOp,hop,resolve,invoke,builtin,hs,hx,hrun,Result.andThen,-List.append_assoc]
 exact hK
theorem own_del {w:World} {base g N cap b:Nat} {cur:Array Value} {L:List ByteArray} (hbase:base <= g) (hg:w.heap[g]? = some (.cells cur 9 (0,0))) (hsz:cur.size = cap) (hcm:cap <= maxLen) (hN:N = L.length) (hle:N <= cap) (hb:b < N) (htk:cur.toList.take N = L.map Value.string) (m:Nat) (hm:m = N - (b + 1)) :
   (w.setRow g (cur.toList.take b ++ (L.drop (b + 1)).map Value.string ++ cur.toList.drop (b + ((L.drop (b + 1)).map Value.string).length)).toArray).ownsRow base 9 1 (.slice (some ⟨g,0,none⟩) (b + m) cap) (L.take b ++ L.drop (b + 1)).length ((L.take b ++ L.drop (b + 1)).map Value.string):=by
 have hl1:((L.drop (b + 1)).map Value.string).length = m:=by rw [List.length_map,List.length_drop]; omega
 have hl2:(L.take b ++ L.drop (b + 1)).length = b + m:=by rw [List.length_append,List.length_take,List.length_drop]; omega
 have hcl:cur.toList.length = cap:=by rw [<- hsz]; simp
 have htb:cur.toList.take b = (L.take b).map Value.string:=by
   have h9:=congrArg (List.take b) htk
   rw [List.take_take,Nat.min_eq_left (by omega),<- List.map_take] at h9
   exact h9
 rw [hl2]
 refine ⟨by rw [List.length_map,hl2]; omega,Or.inr ⟨g,cap,_,rfl,hbase,setRow_heap w g cur _ 9 (0,0) hg,by omega,hcm, ?_, ?_⟩⟩
 · rw [List.size_toArray,List.length_append,List.length_append,List.length_take,hl1,List.length_drop,hcl]; omega
 · rw [List.toList_toArray,Nat.mul_one,List.take_append_of_le_length (by rw [List.length_append,List.length_take,hl1,hcl]; omega),List.take_of_length_le (by rw [List.length_append,List.length_take,hl1,hcl]; omega),htb,List.map_append]
def PostS (w:World) (l:List ByteArray) (x:Ending) (w':World):Prop:=∃ v,x = .returned v /\ StrsS w' v l /\ Below w.heap.size w w'
def MkSS (f:Nat) (l m:List ByteArray):Prop:=∀ w x,StrsS w x l -> Calls Tryz.prog f #[x] w (PostS w m)
theorem MkSS.calls0 {f:Nat} {l m:List ByteArray} (h:MkSS f l m) {w:World} {x:Value} (hx:StrsS w x l) {R:Ending -> World -> Prop} (k:∀ v w',StrsS w' v m -> Since w w' -> R (.returned v) w'):Calls Tryz.prog f #[x] w R :=
 (h w x hx).mono fun _ _ ⟨v,he,ho,hb⟩ => by subst he; exact k v _ ho hb
def OwnS (w W:World) (v:Value) (l:List ByteArray):Prop:=W.ownsRow w.heap.size 9 1 v l.length (l.map Value.string)
theorem own_since {w w':World} {base:Nat} {E:TypeId} {size:Nat} {v:Value} {n:Nat} {xs:List Value} (h:w.ownsRow base E size v n xs) (hs:Since w w'):w'.ownsRow base E size v n xs:=by
 obtain ⟨h1,h2⟩:=h
 refine ⟨h1, ?_⟩
 rcases h2 with h2 | ⟨g,cap,cur,rfl,hb,hg,r⟩
 · exact Or.inl h2
 · exact Or.inr ⟨g,cap,cur,rfl,hb,(Below.block hs g (Array.getElem?_eq_some_iff.1 hg).1).trans hg,r⟩
theorem OwnS.since {w W W':World} {v:Value} {l:List ByteArray} (h:OwnS w W v l) (hs:Since W W'):OwnS w W' v l:=own_since h hs
theorem OwnS.read {w W:World} {v:Value} {l:List ByteArray} (h:OwnS w W v l):StrsS W v l:=SlR.own h
theorem OwnS.form {w W:World} {v:Value} {l:List ByteArray} (h:OwnS w W v l) (hn:0 < l.length):∃ g cap cur,v = .slice (some ⟨g,0,none⟩) l.length cap /\ w.heap.size <= g /\ W.heap[g]? = some (.cells cur 9 (0,0)) /\ l.length <= cap /\ cap <= maxLen /\ cur.size = cap /\ cur.toList.take l.length = l.map Value.string:=by
 obtain ⟨h1,h2⟩:=h
 rcases h2 with ⟨_,h2⟩ | ⟨g,cap,cur,hv,hb,hg,hle,hm,hs,ht⟩
 · omega
 · exact ⟨g,cap,cur,hv,hb,hg,hle,hm,by rw [hs,Nat.mul_one],by rw [Nat.mul_one] at ht; exact ht⟩
theorem other_own {w W:World} {v:Value} {l:List ByteArray} (h:OwnS w W v l) (g:Nat) (cs:Array Value) (hne:v.ownBlock ≠ some g):OwnS w (W.setRow g cs) v l:=by
 obtain ⟨h1,h2⟩:=h
 refine ⟨h1, ?_⟩
 rcases h2 with h2 | ⟨g2,cap,cur,rfl,hb,hg,r⟩
 · exact Or.inl h2
 · exact Or.inr ⟨g2,cap,cur,rfl,hb,(setRow_other _ _ _ _ (fun e => hne (by rw [e]; rfl))).trans hg,r⟩
theorem row_cell {W:World} {g N:Nat} {cur:Array Value} {t:TypeId} {L:List ByteArray} (hg:W.heap[g]? = some (.cells cur t (0,0))) (ht:cur.toList.take N = L.map Value.string) {j:Nat} {s:ByteArray} (hs:L[j]? = some s):W.cell? ⟨g,j,none⟩ = some (.string s):=by
 unfold World.cell?
 rw [hg]
 have h2:(L.map Value.string)[j]? = some (.string s):=by rw [List.getElem?_map,hs]; rfl
 rw [<- ht,List.getElem?_take] at h2
 split at h2
 · simpa using h2
 · cases h2
set_option maxHeartbeats 16000000 in
theorem rsort_main (l:List ByteArray) (hl0:0 < l.length) (hl9:l.length <= 100000) (hL:∀ a b:ByteArray,a ∈ l -> b ∈ l -> Ret 81 #[.string a,.string b] (.bool (ltB a.data.toList b.data.toList))):MkSS 42 l (srtB l):=by
 intro w x hx
 obtain ⟨b,o,c,rfl,h1,h2,h3,h4⟩:=strs_cells hx hl0
 obtain ⟨n,hn⟩:∃ n,n = l.length:=⟨_,rfl⟩
 rw [<- hn] at hl0 h1 hl9 ⊢
 have hnews:∀ j u,(l.map Value.string)[j]? = some u -> (w.alloc (.cells #[] 9)).cell? ((⟨b,o,none⟩:Addr).add j) = some u:=by
   intro j u hu
   rw [List.getElem?_map,Option.map_eq_some_iff] at hu
   obtain ⟨s,hs,rfl⟩:=hu
   have e:(⟨b,o,none⟩:Addr).add j = ⟨b,o + j,none⟩:=by unfold Addr.add; split <;> simp_all
   rw [e]
   exact (Below.cell ((Below.refl _ w).alloc (Nat.le_refl _) _) (p:=⟨b,o + j,none⟩) h3).trans (h4 j s hs)
 obtain ⟨i0,hi0,hz0,hz1,hz2⟩:=info_parts (show (Tryz.prog.info? 9).map (fun i => (i.zero,i.size,i.bytes)) = some (some (.string ⟨#[]⟩),1,16) by kernel_rfl)
 have hml:(l.map Value.string).length = n * 1:=by rw [List.length_map,hn,Nat.mul_one]
 have hone:∀ u ∈ l.map Value.string,u.oneCell' = true:=fun u hu => by obtain ⟨s,_,rfl⟩:=List.mem_map.1 hu; rfl
 have hown0:(w.alloc (.cells #[] 9)).ownsRow w.heap.size 9 1 (.slice (some ⟨w.heap.size,0,none⟩) 0 0) 0 []:=World.ownsRow_made w #[] 0 (Nat.le_refl _) (by decide) rfl
 have HNW:=lH hnews
 have HML:=lH hml
 have HON:=lH hone
 have HO0:=lH hown0
 have HN:=lH hn
 have HL:=lH hL
 have HI:=lH hi0
 have HZ0:=lH hz0
 have HZ1:=lH hz1
 have HZ2:=lH hz2
 clear h4 hx hnews hml hone hown0 hn hL hi0 hz0 hz1 hz2
 go_enter Tryz.func42,Tryz.ntmps42
 go_wp2_with (at_builtin; refine wpList_append_own _ rfl _ _ 61 rfl w.heap.size 9 i0 (.string ⟨#[]⟩) 1 16 Tryz.underlying61 HI.out HZ0.out HZ1.out HZ2.out rfl (by decide) _ 0 [] (by rfl) HO0.out ⟨b,o,none⟩ n c (l.map Value.string) (by rfl) HML.out HNW.out HON.out (by unfold maxLen; omega) (by omega) (by simp) ?_)
 intro v0 w1 ho1 hg1 _
 have HS0:Hid (Since w w1):=lH (by
   refine Below.grown ((Since.refl w).alloc _) hg1 (by simp) (fun k hk => ?_)
   cases hk; exact Nat.le_refl _)
 have HO1:Hid (OwnS w w1 v0 l):=lH (by
   unfold OwnS
   rw [<- HN.out]
   exact ho1)
 clear ho1 hg1 HNW HML HON HO0 HI HZ0 HZ1 HZ2
 go_wp2_with fail
 go_loopw [3,4,5,6] (fun lv ov _ _ wr => ∃ L O:List ByteArray,L.length + O.length = n /\ sliceLen lv = L.length /\ Hid (OwnS w wr lv L) /\ Hid (OwnS w wr ov O) /\ Hid (Apart lv ov) /\ Hid (SInv l L O) /\ Hid (Since w wr)) (fun lv _ _ _ _ => sliceLen lv)
 case atStart => exact ⟨l,[],by rw [HN.out]; rfl,by obtain ⟨g,cap,cur,hv,_⟩:=HO1.out.form (by rw [<- HN.out]; exact hl0); rw [hv]; rfl,HO1,lH (World.ownsRow_nil _ _ _ _),lH (fun g _ h => by cases h),lH (SInv.start l),HS0⟩
 case round =>
   obtain ⟨L,O,hLO,hsl,HLv,HOv,HAP,HI,HS⟩:=hrel
   by_cases hL0:L.length = 0
   · obtain rfl:=List.length_eq_zero_iff.1 hL0
     obtain ⟨A,d,rfl,_⟩:=SlR.empty (HLv.out.read) rfl
     have hfin:=HI.out.done
     have HF:Hid (StrsS wr u4 (srtB l)):=lH (by rw [<- hfin]; exact HOv.out.read)
     clear hfin hsl hL0
     go_wp2_with fail
     go_ret
     exact ⟨_,rfl,HF.out,HS.out⟩
   · obtain ⟨g,cap,cur,rfl,hgb,hgc,hle,hcm,hcs,htk⟩:=HLv.out.form (by omega)
     obtain ⟨N,hN⟩:∃ N,N = L.length:=⟨_,rfl⟩
     have hNn:N <= n:=by omega
     have hsub:∀ s ∈ L,s ∈ l:=fun s hs => HI.out.perm.subset (List.mem_append_right _ hs)
     have HCL:=lH (fun j s (hs:L[j]? = some s) => row_cell hgc htk hs)
     have HSUB:=lH hsub
     have hgl:g < wr.heap.size:=(Array.getElem?_eq_some_iff.1 hgc).1
     rw [<- hN] at hle hLO hL0 ⊢
     have HNL:=lH hN
     clear hgc htk hcs hN hsub hsl
     go_wp2_with fail
     go_loopw [5,6] (fun bv iv wi => ∃ k B:Nat,k + 1 <= N /\ iv = .int .i64 ((k:Int) + 1) /\ bv = .int .i64 (B:Int) /\ Hid (B = bestN L (k + 1)) /\ B < k + 1 /\ Hid (Since wr wi)) (fun _ iv _ => N - (intOf iv).toNat)
     case atStart => exact ⟨0,0,by omega,rfl,rfl,lH rfl,by decide,lH (Since.refl wr)⟩
     case round =>
       obtain ⟨k,B,hk,rfl,rfl,HB,hBk,HSI⟩:=hrel
       obtain ⟨t,ht⟩:∃ t,L[B]? = some t:=⟨L[B]'(by rw [<- HNL.out]; omega),List.getElem?_eq_getElem _⟩
       have m1:=(Below.cell HSI.out (p:=⟨g,B,none⟩) hgl).trans (HCL.out B t ht)
       have j1:(0:Int) <= (B:Int):=by omega
       have j2:(B:Int) < (N:Int):=by omega
       by_cases hlt:k + 1 < N
       · obtain ⟨s,hs⟩:∃ s,L[k+1]? = some s:=⟨L[k+1]'(by rw [<- HNL.out]; omega),List.getElem?_eq_getElem _⟩
         have m0:=(Below.cell HSI.out (p:=⟨g,k + 1,none⟩) hgl).trans (HCL.out (k + 1) s hs)
         have c1:=HL.out s t (HSUB.out s (List.mem_of_getElem? hs)) (HSUB.out t (List.mem_of_getElem? ht))
         have hl2:=lt2_at L (k + 1) B s t hs ht
         have hbn:bestN L (k + 2) = if lt2 L (k + 1) (bestN L (k + 1)) then k + 1 else bestN L (k + 1):=rfl
         rw [<- HB.out,hl2] at hbn
         unfold dl at hbn
         have i3:(0:Int) <= (k:Int) + 1:=by omega
         have i4:(k:Int) + 1 < (N:Int):=by omega
         have e2:((k:Int) + 1).toNat = k + 1:=by omega
         cases hlb:ltB s.data.toList t.data.toList with
         | true =>
           rw [hlb] at c1 hbn
           have HB2:Hid (k + 1 = bestN L (k + 1 + 1)):=lH (by rw [if_pos rfl] at hbn; exact hbn.symm)
           clear hs ht hlb hl2 hbn
           go_wp2_with fail
           go_quiet ((go_at_call 81; with_reducible exact Calls.quiet_of_same (retStill c1 _)))
           go_wp2_with fail
           go_roundw
           case rel => exact ⟨k + 1,k + 1,by omega,by go_num,by go_num,HB2,by omega,lH (HSI.out.step (belowN _ _))⟩
           case measure => simp [intOf]; omega
         | false =>
           rw [hlb] at c1 hbn
           have HB2:Hid (B = bestN L (k + 1 + 1)):=lH (by rw [if_neg (by decide)] at hbn; exact hbn.symm)
           clear hs ht hlb hl2 hbn
           go_wp2_with fail
           go_quiet ((go_at_call 81; with_reducible exact Calls.quiet_of_same (retStill c1 _)))
           go_wp2_with fail
           go_roundw
           case rel => exact ⟨k + 1,B,by omega,by go_num,rfl,HB2,by omega,lH (HSI.out.step (belowN _ _))⟩
           case measure => simp [intOf]; omega
       · have HLS:=lH (best_least L k (by rw [<- HNL.out]; omega) t (by rw [<- HB.out]; exact ht))
         have HTT:=lH ht
         replace HLv:=lH (HLv.out.since HSI.out)
         replace HOv:=lH (HOv.out.since HSI.out)
         replace HS:=lH (HS.out.step HSI.out)
         clear ht HSI HCL
         go_wp2_with (at_builtin; refine app_one_d elemS rfl _ _ (by rfl) w _ _ O.length _ (by rfl) HOv.out HS.out (.string t) (by rfl) rfl (by omega) (by decide) ?_)
         intro v2 W2 ho2 hs2 hkeep
         obtain ⟨hl2,hap2⟩:=hkeep _ _ _ HLv.out HAP.out.symm
         obtain ⟨g2,cap2,cur2,hv2,hgb2,hgc2,hle2,hcm2,hcs2,htk2⟩:=OwnS.form hl2 (by rw [<- HNL.out]; omega)
         obtain ⟨e1,-,e3⟩:=Value.slice.inj hv2
         obtain ⟨rfl,-,-⟩:=Addr.mk.inj (Option.some.inj e1)
         subst e3
         rw [<- HNL.out] at hle2 htk2
         have hBN:B < N:=by omega
         have hnl:((L.drop (B + 1)).map Value.string).length = N - (B + 1):=by rw [List.length_map,List.length_drop,HNL.out]
         obtain ⟨A,hA,hnews⟩:∃ A:Addr,(if cap = B + 1 then some (⟨g,0,none⟩:Addr) else some ⟨g,B + 1,none⟩) = some A /\ Hid (∀ j u,((L.drop (B + 1)).map Value.string)[j]? = some u -> W2.drew.cell? (A.add j) = some u):=by
           have hget:∀ j u,((L.drop (B + 1)).map Value.string)[j]? = some u -> j < N - (B + 1) /\ W2.cell? ⟨g,B + 1 + j,none⟩ = some u:=by
             intro j u hu
             have hj:=(List.getElem?_eq_some_iff.1 hu).1
             rw [hnl] at hj
             rw [List.getElem?_map,Option.map_eq_some_iff] at hu
             obtain ⟨s,hs,rfl⟩:=hu
             rw [List.getElem?_drop] at hs
             exact ⟨hj,row_cell hgc2 htk2 hs⟩
           by_cases h:cap = B + 1
           · refine ⟨⟨g,0,none⟩,by simp [h],fun j u hu => ?_⟩
             have:=(hget j u hu).1
             omega
           · refine ⟨⟨g,B + 1,none⟩,by simp [h],fun j u hu => ?_⟩
             have e:(⟨g,B + 1,none⟩:Addr).add j = ⟨g,B + 1 + j,none⟩:=by unfold Addr.add; split <;> simp_all
             rw [e]
             exact (hget j u hu).2
         have s1:=lH hnl
         have s2:Hid (∀ u ∈ (L.drop (B + 1)).map Value.string,u.oneCell' = true):=lH (fun u hu => by obtain ⟨x,_,rfl⟩:=List.mem_map.1 hu; rfl)
         have s3:Hid (W2.drew.heap[g]? = some (.cells cur2 9 (0,0))):=lH hgc2
         have s4:Hid (B + ((L.drop (B + 1)).map Value.string).length <= cur2.size):=lH (by rw [hnl,hcs2]; omega)
         obtain ⟨R,hR⟩:∃ R:Array Value,(cur2.toList.take B ++ (L.drop (B + 1)).map Value.string ++ cur2.toList.drop (B + ((L.drop (B + 1)).map Value.string).length)).toArray = R:=⟨_,rfl⟩
         have hdel:=own_del (w:=W2.drew) hgb2 hgc2 hcs2 hcm2 HNL.out hle2 hBN htk2 (N - (B + 1)) rfl
         rw [hR] at hdel
         have HDEL:=lH hdel
         have HRR:=lH hR
         clear hR
         have HO2:Hid (OwnS w W2 v2 (O ++ [t])):=lH (by
           unfold OwnS
           rw [List.length_append,List.map_append]
           exact ho2)
         have HAP2:=lH hap2
         have HS2:=lH hs2
         have HI2:=lH (HI.out.step B t HTT.out HLS.out)
         have hlen2:(L.take B ++ L.drop (B + 1)).length = B + (N - (B + 1)):=by rw [List.length_append,List.length_take,List.length_drop]; have:=HNL.out; omega
         have HLN:=lH hlen2
         obtain ⟨i0,hi0,hz0,hz1,hz2⟩:=info_parts (show (Tryz.prog.info? 9).map (fun i => (i.zero,i.size,i.bytes)) = some (some (.string ⟨#[]⟩),1,16) by kernel_rfl)
         have HI0:=lH hi0
         have HZ1:=lH hz1
         have hwr:IntKind.i64.wrap ((B:Int) + 1) = (B:Int) + 1:=IntWalk.i64_in _ (by omega)
         have hp0:(0:Int) <= (B:Int) + 1:=by omega
         have hp1:(B:Int) + 1 <= (N:Int):=by omega
         have hp2:((B:Int) + 1).toNat = B + 1:=by omega
         have hp3:(B:Int) <= (cap:Int):=by omega
         have hgbase:=lH hgb2
         clear ho2 hs2 hkeep hl2 hap2 hv2 hgb2 hgc2 hcs2 htk2 e1 hnl hdel hlen2 hi0 hz0 hz1 hz2 m1
         go_wp2_with fail
         go_region_law (refine step_append_row rfl (.tmp 38) (.tmp 42) 61 rfl 9 i0 Tryz.underlying61 HI0.out HZ1.out g B cap cur2 s3.out (by simp [Act.eval,Act.put]) A (N - (B + 1)) (cap - (B + 1)) ((L.drop (B + 1)).map Value.string) (by simp [Act.eval,Act.put]) s1.out hnews.out s2.out (by omega) s4.out R HRR.out ?_)
         all_goals
           have HLO:=lH hLO
           clear hA hwr hp2 hLO
           obtain ⟨W4,hW4⟩:∃ W4,W4 = W2.drew.setRow g R:=⟨_,rfl⟩
           change Exit.inBlock 1 _ Exit.normal (Act.put _ (some 3) _) (W2.drew.setRow g R)
           rw [<- hW4]
           have HD4:Hid (OwnS w W4 (.slice (some ⟨g,0,none⟩) (B + (N - (B + 1))) cap) (L.take B ++ L.drop (B + 1))):=lH (by rw [hW4]; exact HDEL.out)
           have HV4:Hid (OwnS w W4 v2 (O ++ [t])):=lH (by rw [hW4]; exact other_own (HO2.out.since (Below.drew (Below.refl _ _))) g _ (fun e => HAP2.out g e rfl))
           have HS4:Hid (Since w W4):=lH (by rw [hW4]; exact below_setRow (Since.drew HS2.out) hgbase.out _)
           clear hW4 HDEL
           go_simp
           go_roundw
           case rel =>
             have hLO:=HLO.out
             repeat apply Exists.intro
             refine ⟨?_,rfl⟩
             exact ⟨L.take B ++ L.drop (B + 1),O ++ [t],by rw [HLN.out,List.length_append]; show B + (N - (B + 1)) + (O.length + 1) = n; omega,HLN.out.symm,HD4,HV4,lH (fun g' h1 h2 => HAP2.out g' h2 h1),HI2,HS4⟩
           case measure => show B + (N - (B + 1)) < N; omega
theorem rsort_none (w:World) (c:Nat) (hc:c = 0):Calls Tryz.prog 42 #[.slice none 0 c] w (PostS w []):=by
 subst hc
 obtain ⟨i0,hi0,hz0,hz1,hz2⟩:=info_parts (show (Tryz.prog.info? 9).map (fun i => (i.zero,i.size,i.bytes)) = some (some (.string ⟨#[]⟩),1,16) by kernel_rfl)
 have HO0:=lH (World.ownsRow_made (e:=9) (size:=1) w #[] 0 (Nat.le_refl _) (by decide) rfl)
 have HI:=lH hi0
 clear hi0 hz0 hz1 hz2
 go_enter Tryz.func42,Tryz.ntmps42
 go_wp2_with (at_builtin; refine wpList_append_own_none rfl _ _ 61 rfl w.heap.size 9 i0 1 Tryz.underlying61 HI.out _ 0 [] (by rfl) HO0.out (by rfl) ?_)
 go_loopw [3,4,5,6] (fun lv ov _ _ wr => lv = .slice (some ⟨w.heap.size,0,none⟩) 0 0 /\ ov = .slice none 0 0 /\ Hid (Since w wr)) (fun lv _ _ _ _ => sliceLen lv)
 case atStart => exact ⟨rfl,rfl,lH ((Since.refl w).alloc _)⟩
 case round =>
   obtain ⟨rfl,rfl,HS⟩:=hrel
   go_wp2_with fail
   go_ret
   exact ⟨_,rfl,StrsS.nil _,HS.out⟩
end Setof
end Go.Proofs.YtpanhhjkecebkaaGreat
