import Derived.Test.YtpanhhjkecebkaaGreatAq18
import Derived.Test.YtpanhhjkecebkaaGreatAq21
import Derived.Laws.AppendOwnNone
set_option maxRecDepth 100000
namespace Go.Proofs.YtpanhhjkecebkaaGreat
open Go.RowKit
namespace Setof
def dl (s:ByteArray):List UInt8:=s.data.toList
def lt2 (l:List ByteArray) (i j:Nat):Bool:=match l[i]?,l[j]? with | some a,some b => ltB (dl a) (dl b) | _,_ => false
def bestN (l:List ByteArray):Nat -> Nat
 | 0 => 0
 | 1 => 0
 | k+2 => if lt2 l (k + 1) (bestN l (k + 1)) then k + 1 else bestN l (k + 1)
def srtB (l:List ByteArray):List ByteArray:=(srt (l.map dl)).map bs
theorem bs_dl (l:List ByteArray):(l.map dl).map bs = l:=by
 rw [List.map_map]
 exact (List.map_congr_left (fun s _ => bs_list s)).trans (List.map_id l)
theorem dl_bs (l:List (List UInt8)):(l.map bs).map dl = l:=by
 rw [List.map_map]
 exact (List.map_congr_left (fun s _ => list_bs s)).trans (List.map_id l)
theorem srtB_of (l m:List ByteArray) (hp:m.Perm l) (hm:(m.map dl).Pairwise up):m = srtB l:=by
 unfold srtB
 rw [<- srt_of (l.map dl) (m.map dl) (hp.map dl) hm,bs_dl]
theorem srtB_perm (l:List ByteArray):(srtB l).Perm l:=by
 have h:=(srt_perm (l.map dl)).map bs
 rw [bs_dl] at h
 exact h
theorem srtB_up (l:List ByteArray):((srtB l).map dl).Pairwise up:=by unfold srtB; rw [dl_bs]; exact srt_up _
theorem srtB_len (l:List ByteArray):(srtB l).length = l.length:=(srtB_perm l).length_eq
structure SInv (l L O:List ByteArray):Prop where
 perm:(O ++ L).Perm l
 ord:(O.map dl).Pairwise up
 le:∀ x ∈ O,∀ y ∈ L,up (dl x) (dl y)
def PostS (w:World) (l:List ByteArray) (x:Ending) (w':World):Prop:=∃ v,x = .returned v /\ StrsS w' v l /\ Below w.heap.size w w'
def MkSS (f:Nat) (l m:List ByteArray):Prop:=∀ w x,StrsS w x l -> Calls Tryz.prog f #[x] w (PostS w m)
theorem MkSS.calls0 {f:Nat} {l m:List ByteArray} (h:MkSS f l m) {w:World} {x:Value} (hx:StrsS w x l) {R:Ending -> World -> Prop} (k:∀ v w',StrsS w' v m -> Since w w' -> R (.returned v) w'):Calls Tryz.prog f #[x] w R :=
 (h w x hx).mono fun _ _ ⟨v,he,ho,hb⟩ => by subst he; exact k v _ ho hb
def OwnS (w W:World) (v:Value) (l:List ByteArray):Prop:=W.ownsRow w.heap.size 9 1 v l.length (l.map Value.string)
theorem OwnS.read {w W:World} {v:Value} {l:List ByteArray} (h:OwnS w W v l):StrsS W v l:=SlR.own h
theorem OwnS.form {w W:World} {v:Value} {l:List ByteArray} (h:OwnS w W v l) (hn:0 < l.length):∃ g cap cur,v = .slice (some ⟨g,0,none⟩) l.length cap /\ w.heap.size <= g /\ W.heap[g]? = some (.cells cur 9 (0,0)) /\ l.length <= cap /\ cap <= maxLen /\ cur.size = cap /\ cur.toList.take l.length = l.map Value.string:=by
 obtain ⟨h1,h2⟩:=h
 rcases h2 with ⟨_,h2⟩ | ⟨g,cap,cur,hv,hb,hg,hle,hm,hs,ht⟩
 · omega
 · exact ⟨g,cap,cur,hv,hb,hg,hle,hm,by rw [hs,Nat.mul_one],by rw [Nat.mul_one] at ht; exact ht⟩
theorem row_cell {W:World} {g N:Nat} {cur:Array Value} {t:TypeId} {L:List ByteArray} (hg:W.heap[g]? = some (.cells cur t (0,0))) (ht:cur.toList.take N = L.map Value.string) {j:Nat} {s:ByteArray} (hs:L[j]? = some s):W.cell? ⟨g,j,none⟩ = some (.string s):=by
 unfold World.cell?
 rw [hg]
 have h2:(L.map Value.string)[j]? = some (.string s):=by rw [List.getElem?_map,hs]; rfl
 rw [<- ht,List.getElem?_take] at h2
 split at h2
 · simpa using h2
 · cases h2
end Setof
end Go.Proofs.YtpanhhjkecebkaaGreat
