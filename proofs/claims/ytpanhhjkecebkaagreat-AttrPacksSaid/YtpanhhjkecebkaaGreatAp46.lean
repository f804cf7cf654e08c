import Derived.Test.YtpanhhjkecebkaaGreatAp31
import Derived.Test.YtpanhhjkecebkaaGreatAp36
set_option maxRecDepth 100000
namespace Go.Proofs.YtpanhhjkecebkaaGreat
open Go.RowKit Go.Sort
namespace Setof
def cf (x y:List UInt8):Int:=if ltB x y then -1 else if ltB y x then 1 else 0
theorem cf_lt (x y:List UInt8):ltOf cf x y = ltB x y:=by
 unfold ltOf cf
 cases h:ltB x y with
 | true => rfl
 | false => cases ltB y x <;> rfl
theorem cf_swo:SWO (ltOf cf):=⟨fun x => by rw [cf_lt]; exact ltB_irrefl x,fun x y z h1 h2 => by rw [cf_lt] at *; exact ltB_trans x y z h1 h2,fun x y z h1 h2 => by rw [cf_lt] at *; exact ltB_ntrans x y z h1 h2⟩
theorem cmp_ret (x y:List UInt8):Ret 79 #[.string (bs x),.string (bs y)] (.int .i64 (cf x y)):=by
 intro w
 have c1:=less_ret (bs x) (bs y) _ rfl
 have c2:=less_ret (bs y) (bs x) _ rfl
 rw [list_bs,list_bs] at c1 c2
 unfold cf
 obtain ⟨X,hX⟩:∃ X,bs x = X:=⟨_,rfl⟩
 obtain ⟨Y,hY⟩:∃ Y,bs y = Y:=⟨_,rfl⟩
 rw [hX,hY] at c1 c2 ⊢
 cases h1:ltB x y with
 | true =>
   rw [h1] at c1
   clear hX hY h1
   go_enter Tryz.func79,Tryz.ntmps79
   go_wp2_with fail
   refine c1.calls ?_
   go_wp2_with fail
   go_ret
   exact ⟨rfl,rfl⟩
 | false =>
   rw [h1] at c1
   cases h2:ltB y x with
   | true =>
     rw [h2] at c2
     clear hX hY h1 h2
     go_enter Tryz.func79,Tryz.ntmps79
     go_wp2_with fail
     refine c1.calls ?_
     go_wp2_with fail
     refine c2.calls ?_
     go_wp2_with fail
     go_ret
     exact ⟨rfl,rfl⟩
   | false =>
     rw [h2] at c2
     clear hX hY h1 h2
     go_enter Tryz.func79,Tryz.ntmps79
     go_wp2_with fail
     refine c1.calls ?_
     go_wp2_with fail
     refine c2.calls ?_
     go_wp2_with fail
     go_ret
     exact ⟨rfl,rfl⟩
structure Kept (W W':World) (g:Nat):Prop where
 os:W'.os = W.os
 out:W'.output = W.output
 tape:W'.tape = W.tape
 size:W.heap.size <= W'.heap.size
 block:∀ b,b < W.heap.size -> b ≠ g -> W'.heap[b]? = W.heap[b]?
theorem sorted_kept (W:World) (g n:Nat) (arr:Array (List UInt8)) (os:Array Obj):Kept W (grow (putRow encStr (Sort.ahead W n) g 0 arr) os) g:=by
 refine ⟨rfl,rfl,rfl, ?_,fun b hb hne => ?_⟩
 · show W.heap.size <= ((W.heap.modify g _) ++ os).size
   rw [Array.size_append,Array.size_modify]; omega
 · show ((W.heap.modify g _) ++ os)[b]? = _
   rw [Array.getElem?_append_left (by rw [Array.size_modify]; exact hb),Array.getElem?_modify,if_neg (fun e => hne e.symm)]
theorem Kept.since {W W':World} {g:Nat} (h:Kept W W' g) {w0:World} (h0:Since w0 W) (hg:w0.heap.size <= g):Since w0 W':=by
 obtain ⟨a,b,c,d,e⟩:=h0
 refine ⟨h.os.trans a,h.tape.trans b,h.out.trans c,Nat.le_trans d h.size,fun k hk => ?_⟩
 rw [h.block k (Nat.lt_of_lt_of_le hk d) (by omega)]
 exact e k hk
theorem holds_row {W:World} {g:Nat} {cur:Array Value} {l:List ByteArray} (hg:W.heap[g]? = some (.cells cur 9 (0,0))) (ht:cur.toList.take l.length = l.map Value.string):Holds encStr W g 0 (l.map dl).toArray:=by
 intro j hj
 have hj2:j < l.length:=by simpa using hj
 have hs:l[j]? = some l[j]:=List.getElem?_eq_getElem hj2
 have e:(l.map dl).toArray[j]! = dl l[j]:=by simp [hj2]
 rw [Nat.zero_add,e]
 refine ⟨?_, ?_⟩
 · rw [row_cell hg ht hs]
   show some (Value.string l[j]) = some (Value.string (bs (dl l[j])))
   unfold dl; rw [bs_list]
 · unfold World.frozen?
   rw [hg]; simp
theorem sorted_read (W:World) (g n cap:Nat) (l:List ByteArray) (os:Array Obj) (hg:g < W.heap.size) (hH:Holds encStr W g 0 (l.map dl).toArray) (hle:l.length <= cap) (hcm:cap <= maxLen) :
   StrsS (grow (putRow encStr (Sort.ahead W n) g 0 (srt (l.map dl)).toArray) os) (.slice (some ⟨g,0,none⟩) l.length cap) (srtB l):=by
 have hln:(srt (l.map dl)).length = l.length:=by rw [(srt_perm _).length_eq,List.length_map]
 have hH2:Holds encStr (Sort.ahead W n) g 0 (l.map dl).toArray:=hH
 have hgs:g < (putRow encStr (Sort.ahead W n) g 0 (srt (l.map dl)).toArray).heap.size:=by
   show g < (W.heap.modify g _).size
   rw [Array.size_modify]; exact hg
 unfold StrsS
 rw [srtB_len]
 refine ⟨by rw [List.length_map,srtB_len,Nat.mul_one],_,_,rfl,hle,hcm,Or.inr ⟨g,0,rfl, ?_,fun i u hu => ?_⟩⟩
 · show g < ((W.heap.modify g _) ++ os).size
   rw [Array.size_append,Array.size_modify]; omega
 · have hi:i < l.length:=by
     have:=(List.getElem?_eq_some_iff.1 hu).1
     rw [List.length_map,srtB_len] at this
     exact this
   rw [cell?_grow _ _ _ hgs,cell?_putRow encStr (Sort.ahead W n) g 0 (l.map dl).toArray (srt (l.map dl)).toArray hH2 (by simp [hln]) i (by simp [hln]; exact hi)]
   unfold srtB at hu
   rw [List.map_map,List.getElem?_map,List.getElem?_eq_getElem (by rw [hln]; exact hi)] at hu
   rw [<- hu]
   have e:(srt (l.map dl)).toArray[i]! = (srt (l.map dl))[i]'(by rw [hln]; exact hi):=by simp [hln,hi]
   rw [e]; rfl
theorem merge_srt (l:List ByteArray):((l.map dl).toArray.toList.mergeSort fun x y => !(ltOf cf) y x) = srt (l.map dl):=by
 unfold srt
 congr 1
 funext x y
 rw [cf_lt]
 cases h:ltB y x with
 | true => rw [decide_eq_false (fun h2 => by rw [(le_iff x y).1 h2] at h; cases h)]; rfl
 | false => rw [decide_eq_true ((le_iff x y).2 h)]; rfl
theorem srtB_nil:srtB [] = []:=List.length_eq_zero_iff.1 (by rw [srtB_len]; rfl)
def SortP (w0 W:World) (v:Value) (l:List ByteArray) (x:Ending) (w':World):Prop:=x = .returned (.tuple #[]) /\ StrsS w' v (srtB l) /\ Since w0 w' /\ ∃ g,Kept W w' g /\ (v.ownBlock = some g ∨ g = W.heap.size)
theorem sortf (w0 W:World) (v:Value) (l:List ByteArray) (ho:OwnS w0 W v l) (hs:Since w0 W) (hl:l.length <= 1000000):Calls Tryz.prog 78 #[v,.func (.func 79) #[] #[]] W (SortP w0 W v l):=by
 by_cases h0:l.length = 0
 · obtain rfl:=List.length_eq_zero_iff.1 h0
   obtain ⟨A,c,rfl,_⟩:=SlR.empty ho.read rfl
   exact (AnyF.slices_SortFunc_none { Tryz.laysSF with } A c (.func (.func 79) #[] #[]) W).mono fun e w' ⟨he,hw⟩ => by
     subst hw
     exact ⟨he,by rw [srtB_nil]; exact ho.read,hs,w'.heap.size,⟨rfl,rfl,rfl,Nat.le_refl _,fun _ _ _ => rfl⟩,Or.inr rfl⟩
 · obtain ⟨g,cap,cur,rfl,hgb,hgc,hle,hcm,hcs,htk⟩:=ho.form (by omega)
   have hH:=holds_row hgc htk
   have hgl:g < W.heap.size:=(Array.getElem?_eq_some_iff.1 hgc).1
   have hsz:(l.map dl).toArray.size = l.length:=by simp
   have h:=Any.slices_SortFunc_total Tryz.laysSF encStr (fun _ => rfl) cf cf_swo 79 #[] g 0 cap (l.map dl).toArray W (fun _ _ => by kernel_rfl)
     (fun m os dk _ x y => (cmp_ret x y _).mono fun e w' ⟨he,hw⟩ => ⟨he,0,#[],by rw [<- hw]; simp [grow,World.drewN]⟩) hH hgl (by rw [hsz]; omega) (fun x y h1 h2 => ltB_tri x y (by rw [<- cf_lt]; exact h1) (by rw [<- cf_lt]; exact h2))
   rw [hsz] at h
   refine h.mono fun e w' ⟨he,n,os,hw⟩ => ?_
   rw [merge_srt] at hw
   have hw2:w' = grow (putRow encStr (Sort.ahead W n) g 0 (srt (l.map dl)).toArray) os:=hw
   subst hw2
   have hk:=sorted_kept W g n (srt (l.map dl)).toArray os
   exact ⟨he,sorted_read W g n cap l os hgl hH hle hcm,hk.since hs hgb,g,hk,Or.inl rfl⟩
def CloneP (w:World) (l:List ByteArray) (x:Ending) (w':World):Prop:=∃ v,x = .returned v /\ OwnS w w' v l /\ Below w.heap.size w w'
theorem clones (w:World) (x:Value) (l:List ByteArray) (hx:StrsS w x l) (hl:l.length <= 1000000):Calls Tryz.prog 77 #[x] w (CloneP w l):=by
 by_cases h0:l.length = 0
 · obtain rfl:=List.length_eq_zero_iff.1 h0
   obtain ⟨A,c,rfl,_⟩:=SlR.empty hx rfl
   cases A with
   | none => exact (Tryz.slices_Clone_string_nil 0 c w).mono fun e w' ⟨he,hw⟩ => by subst hw; exact ⟨_,he,World.ownsRow_nil _ _ _ _,Below.refl _ _⟩
   | some a => exact (Tryz.slices_Clone_string_zero a c w).mono fun e w' ⟨v,he,ho,_,hb⟩ => ⟨v,he,ho,hb⟩
 · obtain ⟨b,o,c,rfl,h1,h2,h3,h4⟩:=strs_cells hx (by omega)
   have h:=Tryz.slices_Clone_string b o l.length c l w (Nat.le_refl _) (by omega) (fun j hj => by
     have:=h4 j l[j] (List.getElem?_eq_getElem hj)
     rw [this]
     simp [List.getD,hj])
   rw [List.take_length] at h
   exact h.mono fun e w' ⟨v,he,ho,_,hb⟩ => ⟨v,he,ho,hb⟩
theorem sort_rd (l:List ByteArray) (hl:l.length <= 1000000):MkSS 41 l (srtB l):=by
 intro w x hx
 have h1:=lH (clones w x l hx hl)
 clear hx
 go_enter Tryz.func41,Tryz.ntmps41
 go_wp2_with fail
 refine h1.out.mono ?_
 rintro e w1 ⟨v,rfl,ho,hb⟩
 have h2:=lH (sortf w w1 v l ho hb hl)
 clear ho hb h1
 go_wp2_with fail
 refine h2.out.mono ?_
 rintro e w2 ⟨rfl,hr,hs,_⟩
 have HR:=lH hr
 have HS:=lH hs
 clear hr hs h2
 go_wp2_with fail
 go_ret
 exact ⟨_,rfl,HR.out,HS.out⟩
end Setof
end Go.Proofs.YtpanhhjkecebkaaGreat
namespace Go.Proofs.YtpanhhjkecebkaaGreat
open Go.RowKit
namespace Setof
def Addressed (v:Value):Prop:=v = .slice none 0 0 ∨ ∃ a n c,v = .slice (some a) n c
def MkSA (f:Nat) (l m:List ByteArray):Prop:=∀ w x,StrsS w x l -> Addressed x -> Calls Tryz.prog f #[x] w (PostS w m)
theorem MkSA.calls0 {f:Nat} {l m:List ByteArray} (h:MkSA f l m) {w:World} {x:Value} (hx:StrsS w x l) (ha:Addressed x) {R:Ending -> World -> Prop} (k:∀ v w',StrsS w' v m -> Since w w' -> R (.returned v) w'):Calls Tryz.prog f #[x] w R :=
 (h w x hx ha).mono fun _ _ ⟨v,he,ho,hb⟩ => by subst he; exact k v _ ho hb
theorem rsort_zero_any (w:World) (a:Addr) (c:Nat):Calls Tryz.prog 42 #[.slice (some a) 0 c] w (PostS w []):=by
 obtain ⟨i0,hi0,hz0,hz1,hz2⟩:=info_parts (show (Tryz.prog.info? 9).map (fun i => (i.zero,i.size,i.bytes)) = some (some (.string ⟨#[]⟩),1,16) by kernel_rfl)
 have HO0:=lH (World.ownsRow_made (e:=9) (size:=1) w #[] 0 (Nat.le_refl _) (by decide) rfl)
 have HI:=lH hi0
 have HZ0:=lH hz0
 have HZ1:=lH hz1
 have HZ2:=lH hz2
 clear hi0 hz0 hz1 hz2
 go_enter Tryz.func42,Tryz.ntmps42
 go_wp2_with (at_builtin; refine wpList_append_own _ rfl _ _ 61 rfl w.heap.size 9 i0 (.string ⟨#[]⟩) 1 16 Tryz.underlying61 HI.out HZ0.out HZ1.out HZ2.out rfl (by decide) _ 0 [] (by rfl) HO0.out a 0 c [] (by rfl) rfl (fun j u h => by cases h) (fun u h => by cases h) (by decide) (by decide) (by simp) ?_)
 intro v0 w1 ho1 hg1 _
 have HS0:Hid (Since w w1):=lH (by
   refine Below.grown ((Since.refl w).alloc _) hg1 (by simp) (fun k hk => ?_)
   cases hk; exact Nat.le_refl _)
 obtain ⟨A,d,hv,_⟩:=SlR.empty (SlR.own ho1) rfl
 subst hv
 clear ho1 hg1
 go_wp2_with fail
 go_loopw [3,4,5,6] (fun lv ov _ _ wr => lv = .slice A 0 d /\ ov = .slice none 0 0 /\ Hid (Since w wr)) (fun lv _ _ _ _ => sliceLen lv)
 case atStart => exact ⟨rfl,rfl,HS0⟩
 case round =>
   obtain ⟨rfl,rfl,HS⟩:=hrel
   go_wp2_with fail
   go_ret
   exact ⟨_,rfl,StrsS.nil _,HS.out⟩
theorem rsort_rd (l:List ByteArray) (hl:l.length <= 100000) (hs:∀ s ∈ l,s.size <= 140737488355328):MkSA 42 l (srtB l):=by
 intro w x hx ha
 by_cases h0:l.length = 0
 · obtain rfl:=List.length_eq_zero_iff.1 h0
   rw [srtB_nil]
   obtain ⟨A,c,rfl,_⟩:=SlR.empty hx rfl
   rcases ha with ha | ⟨a,n,c2,ha⟩
   · obtain ⟨rfl,-,rfl⟩:=Value.slice.inj ha
     exact rsort_none w 0 rfl
   · obtain ⟨rfl,rfl,rfl⟩:=Value.slice.inj ha
     exact rsort_zero_any w a c
 · exact rsort_main l (by omega) hl (fun a b ha hb => rless_ret a b (hs a ha) (hs b hb) _ rfl) w x hx
end Setof
end Go.Proofs.YtpanhhjkecebkaaGreat
