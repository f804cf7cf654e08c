import Derived.Test.YtddlaafpianjbaaGreatDoorBo16
import Derived.BigQuiet
import Derived.BigGuardPart
set_option maxRecDepth 100000
namespace Go.Proofs.YtddlaafpianjbaaGreatDoor
open Go.RowKit
namespace Oct
theorem cell2 (w:World) (x y:Value) (t:TypeId) (i:Nat) (ss:List ByteArray) (h0:x = .string (ss.getD 0 ⟨#[]⟩)) (h1:y = .string (ss.getD 1 ⟨#[]⟩)) (hi:i < 2) :
   (w.alloc (.cells #[x,y] t)).cell? ((⟨w.heap.size,0,none⟩:Addr).add i) = some (.string (ss.getD i ⟨#[]⟩)):=by
 have h:((⟨w.heap.size,0,none⟩:Addr).add i) = ⟨w.heap.size,i,none⟩:=by unfold Addr.add; split <;> simp_all
 rw [h,(World.rowIs_alloc w #[x,y] t (fun j => if j = 0 then x else y) (fun j hj => by
   match j,hj with
   | 0,_ | 1,_ => rfl
   | n + 2,hj => simp at hj; omega)).cell hi]
 match i,hi with
 | 0,_ => rw [if_pos rfl,h0]
 | 1,_ => rw [if_neg (by decide),h1]
theorem cat_two (s t:ByteArray):cat [s,t] = s.data.toList ++ t.data.toList:=by simp [cat]
theorem zeros_list (n:Nat):(strOfNums (List.replicate n 0)).data.toList = List.replicate n 0:=by rw [nums_list]; simp
theorem zeros_len (s:ByteArray) (n:Nat):s.size + n = (cat [s,strOfNums (List.replicate n 0)]).length:=by
 rw [cat_two,List.length_append,zeros_list,List.length_replicate]; rfl
set_option maxHeartbeats 400000 in
theorem pad_even (s:ByteArray) (n:Nat) (w:World) (hm:s.size <= 140737488355328) (h1:1 <= n) (h2:n <= 65535) (h:s.size % n = 0) :
   Calls Tryz.prog 188 #[.string s,.int .i64 (n:Int)] w fun e w' => e = .returned (.string s) /\ w = w':=by
 have hb:((s.size:Int) % (n:Int) == 0) = true:=by
   have h3:(s.size:Int) % (n:Int) = ((s.size % n:Nat):Int):=by simp
   rw [h3,h]; rfl
 clear h
 go_enter Tryz.func188,Tryz.ntmps188
 go_wp2
 go_ret
 exact ⟨rfl,rfl⟩
set_option maxHeartbeats 400000 in
theorem pad_odd (s:ByteArray) (n r:Nat) (w:World) (hm:s.size <= 70368744177664) (h1:1 <= n) (h2:n <= 65535) (hr:s.size % n = r) (h:0 < r) :
   Calls Tryz.prog 188 #[.string s,.int .i64 (n:Int)] w fun e w' => e = .returned (.string (bs (s.data.toList ++ List.replicate (n - r) 0))) /\ Below w.heap.size w w':=by
 have hrn:r < n:=by rw [<- hr]; exact Nat.mod_lt _ (by omega)
 have hq:(s.size:Int) % (n:Int) = (r:Int):=by rw [<- hr]; simp
 have hb:((r:Int) == 0) = false:=by simp; omega
 have hz:((n:Int) - (r:Int)) = ((n - r:Nat):Int):=by omega
 have HR:=lH hr
 clear hr
 go_enter Tryz.func188,Tryz.ntmps188
 go_wp2_with fail
 refine (zeros_yes (n - r) _ (by omega) (by omega)).mono ?_
 rintro e w1 ⟨rfl,hb1⟩
 have HB:=lH hb1
 clear hb1
 go_wp2_with fail
 refine (join_any [s,strOfNums (List.replicate (n - r) 0)] ⟨w1.heap.size,0,none⟩ 2 (s.size + (n - r)) 2 _ rfl (zeros_len s (n - r)) (by omega) (by omega) (by simp) (fun i hi => cell2 w1 _ _ _ i _ rfl rfl hi)).mono ?_
 rintro e w2 ⟨rfl,hb2⟩
 have HB2:=lH hb2
 clear hb2
 go_wp2_with fail
 go_ret
 refine ⟨?_, ?_⟩
 · have h9:cat [s,strOfNums (List.replicate (n - r) 0)] = s.data.toList ++ List.replicate (n - r) 0:=by
     rw [cat_two,zeros_list]
   rw [h9]; rfl
 · exact Since.below (Since.step (Since.alloc (Since.step (Since.refl w) HB.out) _) HB2.out)
end Oct
end Go.Proofs.YtddlaafpianjbaaGreatDoor
