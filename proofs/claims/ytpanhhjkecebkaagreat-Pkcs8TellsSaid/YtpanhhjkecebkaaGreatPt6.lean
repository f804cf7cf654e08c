import Derived.Test.YtpanhhjkecebkaaGreatPt4
import Derived.Deep.RegionWith
set_option maxRecDepth 100000
namespace Go.Proofs.YtpanhhjkecebkaaGreat
open Go.RowKit
namespace Head
theorem or_cons:∀ c:Fin 4,bits .or .u8 ((c.1:Nat) * 64:Int) 32 = (c.1:Nat) * 64 + 32:=by decide
theorem or_tag:∀ (c:Fin 4) (b:Bool) (t:Fin 32),bits .or .u8 ((c.1:Nat) * 64 + (if b then 32 else 0):Int) (t.1:Nat) = (c.1:Nat) * 64 + (if b then 32 else 0) + (t.1:Nat):=by decide
theorem or_cons' (c:Nat) (hc:c <= 3):bits .or .u8 ((c:Int) * 64) 32 = (c:Int) * 64 + 32:=or_cons ⟨c,by omega⟩
theorem or_tag_t (c t:Nat) (hc:c <= 3) (ht:t < 32):bits .or .u8 ((c:Int) * 64 + 32) (t:Int) = (c:Int) * 64 + 32 + t:=or_tag ⟨c,by omega⟩ true ⟨t,ht⟩
theorem or_tag_f (c t:Nat) (hc:c <= 3) (ht:t < 32):bits .or .u8 ((c:Int) * 64) (t:Int) = (c:Int) * 64 + t:=by
 have h:=or_tag ⟨c,by omega⟩ false ⟨t,ht⟩
 simpa using h
theorem one_num (n:Nat) (x:Int) (h:x = (n:Int)):strOfNums [x] = bs [UInt8.ofNat n]:=by
 subst h; rfl
set_option maxHeartbeats 2000000 in
theorem tag_short (c t n:Nat) (b:Bool) (hc:c <= 3) (ht:t < 31) (X:ByteArray) (hX:X = bs (tagL c t b)):Mak 134 #[.agg #[.int .i64 (c:Int),.int .i64 (t:Int),.bool b,.int .i64 (n:Int)]] (.string X):=by
 intro w;have hXl:X = bs [UInt8.ofNat (first c t b)]:=by rw [hX]; unfold tagL; rw [if_pos ht]
 clear hX;have o1:=or_cons' c hc;have o2:=or_tag_t c t hc (by omega);have o3:=or_tag_f c t hc (by omega);cases b with
 | true =>
   have hn:=one_num (first c t true) ((c:Int) * 64 + 32 + t) (by unfold first; simp; omega);rw [<- hXl] at hn;have g:=conv_lit (w.alloc (.cells #[.int .i64 (c:Int),.int .i64 (t:Int),.bool true,.int .i64 (n:Int)] 115)) (w.heap.size + 1) (by simp) [(c:Int) * 64 + 32 + t] 1 rfl #[.int .u8 ((c:Int) * 64 + 32 + t)] rfl;rw [hn] at g;clear hn hXl
   go_enter Tryz.func134,Tryz.ntmps134
   go_wp2_with fail;go_ret;exact ⟨rfl,((Since.refl w).alloc _).alloc _⟩
 | false =>
   have hn:=one_num (first c t false) ((c:Int) * 64 + t) (by unfold first; simp; omega);rw [<- hXl] at hn;have g:=conv_lit (w.alloc (.cells #[.int .i64 (c:Int),.int .i64 (t:Int),.bool false,.int .i64 (n:Int)] 115)) (w.heap.size + 1) (by simp) [(c:Int) * 64 + t] 1 rfl #[.int .u8 ((c:Int) * 64 + t)] rfl;rw [hn] at g;clear hn hXl
   go_enter Tryz.func134,Tryz.ntmps134
   go_wp2_with fail;go_ret;exact ⟨rfl,((Since.refl w).alloc _).alloc _⟩
theorem box4 {w wr:World} {a b c d:Value} {T:TypeId} (h:Since (w.alloc (.cells #[a,b,c,d] T)) wr):wr.cell? ⟨w.heap.size,0,none⟩ = some a /\ wr.cell? ⟨w.heap.size,1,none⟩ = some b /\ wr.cell? ⟨w.heap.size,2,none⟩ = some c /\ wr.cell? ⟨w.heap.size,3,none⟩ = some d:=by
 have hs:w.heap.size < (w.alloc (.cells #[a,b,c,d] T)).heap.size:=by simp
 refine ⟨?_, ?_, ?_, ?_⟩
 · rw [h.cell hs]; exact World.cell?_alloc_at (w:=w) _ _ _ 0 rfl
 · rw [h.cell hs]; exact World.cell?_alloc_at (w:=w) _ _ _ 1 rfl
 · rw [h.cell hs]; exact World.cell?_alloc_at (w:=w) _ _ _ 2 rfl
 · rw [h.cell hs]; exact World.cell?_alloc_at (w:=w) _ _ _ 3 rfl
def sgI (t k:Nat):List Int:=if 2 ^ (7 * k) <= t then [128 + (t:Int) / 2 ^ (7 * k) % 128] else []
def preI (F:Int) (t:Nat):Nat -> List Int
 | 0 => [F] ++ sgI t 2 ++ sgI t 1
 | 1 => [F] ++ sgI t 2
 | _ => [F]
theorem or128:∀ n:Fin 256,bits .or .u8 ((n.1:Nat):Int) 128 = 128 + ((n.1 % 128:Nat):Int):=by decide
theorem and127:∀ n:Fin 256,bits .and .u8 ((n.1:Nat):Int) 127 = ((n.1 % 128:Nat):Int):=by decide
theorem or128_of (x y:Int) (h0:0 <= x) (hn:x < 256) (hy:y = 128 + x % 128):bits .or .u8 x 128 = y:=by
 have h:=or128 ⟨x.toNat,by omega⟩;have e:((x.toNat:Nat):Int) = x:=by omega
 simp only [e] at h;rw [h,hy]; omega
theorem and127_of (x y:Int) (h0:0 <= x) (hn:x < 256) (hy:y = x % 128):bits .and .u8 x 127 = y:=by
 have h:=and127 ⟨x.toNat,by omega⟩;have e:((x.toNat:Nat):Int) = x:=by omega
 simp only [e] at h;rw [h,hy]; omega
theorem sg_map (t k:Nat):seg t k = (sgI t k).map fun n => UInt8.ofNat n.toNat:=by
 unfold seg sgI
 split
 · rw [List.map_cons,List.map_nil]
   congr 1
 · rfl
set_option maxHeartbeats 4000000 in
theorem tag_long (c t n:Nat) (b:Bool) (hc:c <= 3) (ht:31 <= t) (ht2:t <= 2097151) (X:ByteArray) (hX:X = bs (tagL c t b)):Mak 134 #[.agg #[.int .i64 (c:Int),.int .i64 (t:Int),.bool b,.int .i64 (n:Int)]] (.string X):=by
 intro w;have o1:=or_cons' c hc;have o2:bits .or .u8 ((c:Int) * 64 + 32) 31 = _:=or_tag_t c 31 hc (by omega);have o3:bits .or .u8 ((c:Int) * 64) 31 = _:=or_tag_f c 31 hc (by omega);have HX:=lH hX;clear hX;cases b with
 | true =>
   go_enter Tryz.func134,Tryz.ntmps134
   go_wp2_with fail;go_loopw [4,5] (fun v i wr => ∃ k:Nat,k <= 2 /\ i = .int .i64 (k:Int) /\ Hid (wr.ownsRow (w.heap.size + 1) 5 1 v (preI ((c:Int) * 64 + 32 + 31) t k).length ((preI ((c:Int) * 64 + 32 + 31) t k).map (Value.int .u8))) /\ Hid (Since (w.alloc (.cells #[.int .i64 (c:Int),.int .i64 (t:Int),.bool true,.int .i64 (n:Int)] 115)) wr)) (fun _ i _ => (intOf i).toNat)
   case atStart =>
     refine ⟨2,by omega,rfl,lH ?_,lH ((Since.refl _).alloc _)⟩;exact own_lit _ _ _ (by simp) (by simp) _ 1 rfl (by decide) _ rfl _
   case round =>
     obtain ⟨k,hk,rfl,HO,HS⟩:=hrel;obtain ⟨k0,k1,k2,k3⟩:=box4 HS.out;have hkk:k = 2 ∨ k = 1 ∨ k = 0:=by omega
     have hW:(w.alloc (.cells #[.int .i64 (c:Int),.int .i64 (t:Int),.bool true,.int .i64 (n:Int)] 115)).heap.size = w.heap.size + 1:=by simp
     rw [<- hW] at HO;rcases hkk with rfl | rfl | rfl
     · by_cases hg:16384 <= t
       · have hp:preI ((c:Int) * 64 + 32 + 31) t 1 = preI ((c:Int) * 64 + 32 + 31) t 2 ++ [128 + (t:Int) / 16384 % 128]:=by
           show [_] ++ sgI t 2 = _
           unfold sgI;rw [if_pos (by simpa using hg)];rfl
         have hor:=or128_of ((t:Int) / 16384) (128 + (t:Int) / 16384 % 128) (by omega) (by omega) rfl;have hlen2:(preI ((c:Int) * 64 + 32 + 31) t 2).length <= 1099511627776:=by show 1 <= 1099511627776; decide
         have hlt:0 < (t:Int) / 16384:=by omega
         have Hp:=lH hp;clear hp;go_wp2_with (at_builtin; refine app_one elem8 rfl _ _ (by rfl) _ wr _ _ _ (by rfl) HO.out HS.out _ (by rfl) rfl hlen2 (by decide) ?_)
         intro v' w2 hO2 hS2;have HO2:=lH hO2;clear hO2;have HS2:=lH hS2;clear hS2;go_wp2_with fail;go_roundw
         case rel => exact ⟨1,by omega,rfl,lH (by rw [Hp.out,List.map_append,List.length_append]; exact HO2.out),HS2⟩
         case measure => simp [intOf]
       · have hp:preI ((c:Int) * 64 + 32 + 31) t 1 = preI ((c:Int) * 64 + 32 + 31) t 2:=by
           show [_] ++ sgI t 2 = _
           unfold sgI;rw [if_neg (by simpa using hg)];rfl
         have hle:(t:Int) / 16384 <= 0:=by omega
         have Hp:=lH hp;clear hp;go_wp2_with fail;go_roundw
         case rel => exact ⟨1,by omega,rfl,lH (by rw [Hp.out,<- hW]; exact HO.out),HS⟩
         case measure => simp [intOf]
     · by_cases hg:128 <= t
       · have hp:preI ((c:Int) * 64 + 32 + 31) t 0 = preI ((c:Int) * 64 + 32 + 31) t 1 ++ [128 + (t:Int) / 128 % 128]:=by
           show [_] ++ sgI t 2 ++ sgI t 1 = _
           rw [show sgI t 1 = [128 + (t:Int) / 128 % 128] from by unfold sgI; rw [if_pos (by simpa using hg)]; rfl];rfl
         have hor:=or128_of ((t:Int) / 128 % 256) (128 + (t:Int) / 128 % 128) (by omega) (by omega) (by omega);have hlt:0 < (t:Int) / 128:=by omega
         have hlen:(preI ((c:Int) * 64 + 32 + 31) t 1).length <= 1099511627776:=by
           show ([_] ++ sgI t 2).length <= _
           unfold sgI
           split <;> simp
         have Hp:=lH hp;clear hp;go_wp2_with (at_builtin; refine app_one elem8 rfl _ _ (by rfl) _ wr _ _ _ (by rfl) HO.out HS.out _ (by rfl) rfl hlen (by decide) ?_)
         intro v' w2 hO2 hS2;have HO2:=lH hO2;clear hO2;have HS2:=lH hS2;clear hS2;go_wp2_with fail;go_roundw
         case rel => exact ⟨0,by omega,rfl,lH (by rw [Hp.out,List.map_append,List.length_append]; exact HO2.out),HS2⟩
         case measure => simp [intOf]
       · have hp:preI ((c:Int) * 64 + 32 + 31) t 0 = preI ((c:Int) * 64 + 32 + 31) t 1:=by
           show [_] ++ sgI t 2 ++ sgI t 1 = _
           rw [show sgI t 1 = [] from by unfold sgI; rw [if_neg (by simpa using hg)]];exact List.append_nil _
         have hle:(t:Int) / 128 <= 0:=by omega
         have Hp:=lH hp;clear hp;go_wp2_with fail;go_roundw
         case rel => exact ⟨0,by omega,rfl,lH (by rw [Hp.out,<- hW]; exact HO.out),HS⟩
         case measure => simp [intOf]
     · have hand:=and127_of ((t:Int) % 256) ((t:Int) % 128) (by omega) (by omega) (by omega);have hlen:(preI ((c:Int) * 64 + 32 + 31) t 0).length <= 1099511627776:=by
         show ([_] ++ sgI t 2 ++ sgI t 1).length <= _
         unfold sgI
         split <;> split <;> simp
       have hXs:X = strOfNums (preI ((c:Int) * 64 + 32 + 31) t 0 ++ [(t:Int) % 128]):=by
         rw [HX.out,bs_nums];unfold tagL;rw [if_neg (by omega)]
         show bs _ = bs ((([_] ++ sgI t 2 ++ sgI t 1) ++ [_]).map _)
         rw [List.map_append,List.map_append,List.map_append,<- sg_map,<- sg_map];have e1:UInt8.ofNat (first c 31 true) = UInt8.ofNat ((c:Int) * 64 + 32 + 31).toNat:=by congr 1; unfold first; simp; omega
         have e2:UInt8.ofNat (t % 128) = UInt8.ofNat ((t:Int) % 128).toNat:=by congr 1
         rw [e1,e2];rfl
       go_wp2_with (at_builtin; refine app_one elem8 rfl _ _ (by rfl) _ wr _ _ _ (by rfl) HO.out HS.out _ (by rfl) rfl hlen (by decide) ?_)
       intro v' w2 hO2 hS2;have g:=conv_own w2 _ v' ((preI ((c:Int) * 64 + 32 + 31) t 0).length + 1) (preI ((c:Int) * 64 + 32 + 31) t 0 ++ [(t:Int) % 128]) (by rw [List.map_append]; exact hO2) (Nat.succ_pos _);rw [<- hXs] at g;clear hXs;have HO2:=lH hO2;clear hO2;have HS2:=lH hS2;clear hS2;go_wp2_with fail;go_ret;exact ⟨rfl,Since.step (Since.alloc (Since.refl w) _) HS2.out⟩
 | false =>
   go_enter Tryz.func134,Tryz.ntmps134
   go_wp2_with fail;go_loopw [4,5] (fun v i wr => ∃ k:Nat,k <= 2 /\ i = .int .i64 (k:Int) /\ Hid (wr.ownsRow (w.heap.size + 1) 5 1 v (preI ((c:Int) * 64 + 31) t k).length ((preI ((c:Int) * 64 + 31) t k).map (Value.int .u8))) /\ Hid (Since (w.alloc (.cells #[.int .i64 (c:Int),.int .i64 (t:Int),.bool false,.int .i64 (n:Int)] 115)) wr)) (fun _ i _ => (intOf i).toNat)
   case atStart =>
     refine ⟨2,by omega,rfl,lH ?_,lH ((Since.refl _).alloc _)⟩;exact own_lit _ _ _ (by simp) (by simp) _ 1 rfl (by decide) _ rfl _
   case round =>
     obtain ⟨k,hk,rfl,HO,HS⟩:=hrel;obtain ⟨k0,k1,k2,k3⟩:=box4 HS.out;have hkk:k = 2 ∨ k = 1 ∨ k = 0:=by omega
     have hW:(w.alloc (.cells #[.int .i64 (c:Int),.int .i64 (t:Int),.bool false,.int .i64 (n:Int)] 115)).heap.size = w.heap.size + 1:=by simp
     rw [<- hW] at HO;rcases hkk with rfl | rfl | rfl
     · by_cases hg:16384 <= t
       · have hp:preI ((c:Int) * 64 + 31) t 1 = preI ((c:Int) * 64 + 31) t 2 ++ [128 + (t:Int) / 16384 % 128]:=by
           show [_] ++ sgI t 2 = _
           unfold sgI;rw [if_pos (by simpa using hg)];rfl
         have hor:=or128_of ((t:Int) / 16384) (128 + (t:Int) / 16384 % 128) (by omega) (by omega) rfl;have hlen2:(preI ((c:Int) * 64 + 31) t 2).length <= 1099511627776:=by show 1 <= 1099511627776; decide
         have hlt:0 < (t:Int) / 16384:=by omega
         have Hp:=lH hp;clear hp;go_wp2_with (at_builtin; refine app_one elem8 rfl _ _ (by rfl) _ wr _ _ _ (by rfl) HO.out HS.out _ (by rfl) rfl hlen2 (by decide) ?_)
         intro v' w2 hO2 hS2;have HO2:=lH hO2;clear hO2;have HS2:=lH hS2;clear hS2;go_wp2_with fail;go_roundw
         case rel => exact ⟨1,by omega,rfl,lH (by rw [Hp.out,List.map_append,List.length_append]; exact HO2.out),HS2⟩
         case measure => simp [intOf]
       · have hp:preI ((c:Int) * 64 + 31) t 1 = preI ((c:Int) * 64 + 31) t 2:=by
           show [_] ++ sgI t 2 = _
           unfold sgI;rw [if_neg (by simpa using hg)];rfl
         have hle:(t:Int) / 16384 <= 0:=by omega
         have Hp:=lH hp;clear hp;go_wp2_with fail;go_roundw
         case rel => exact ⟨1,by omega,rfl,lH (by rw [Hp.out,<- hW]; exact HO.out),HS⟩
         case measure => simp [intOf]
     · by_cases hg:128 <= t
       · have hp:preI ((c:Int) * 64 + 31) t 0 = preI ((c:Int) * 64 + 31) t 1 ++ [128 + (t:Int) / 128 % 128]:=by
           show [_] ++ sgI t 2 ++ sgI t 1 = _
           rw [show sgI t 1 = [128 + (t:Int) / 128 % 128] from by unfold sgI; rw [if_pos (by simpa using hg)]; rfl];rfl
         have hor:=or128_of ((t:Int) / 128 % 256) (128 + (t:Int) / 128 % 128) (by omega) (by omega) (by omega);have hlt:0 < (t:Int) / 128:=by omega
         have hlen:(preI ((c:Int) * 64 + 31) t 1).length <= 1099511627776:=by
           show ([_] ++ sgI t 2).length <= _
           unfold sgI
           split <;> simp
         have Hp:=lH hp;clear hp;go_wp2_with (at_builtin; refine app_one elem8 rfl _ _ (by rfl) _ wr _ _ _ (by rfl) HO.out HS.out _ (by rfl) rfl hlen (by decide) ?_)
         intro v' w2 hO2 hS2;have HO2:=lH hO2;clear hO2;have HS2:=lH hS2;clear hS2;go_wp2_with fail;go_roundw
         case rel => exact ⟨0,by omega,rfl,lH (by rw [Hp.out,List.map_append,List.length_append]; exact HO2.out),HS2⟩
         case measure => simp [intOf]
       · have hp:preI ((c:Int) * 64 + 31) t 0 = preI ((c:Int) * 64 + 31) t 1:=by
           show [_] ++ sgI t 2 ++ sgI t 1 = _
           rw [show sgI t 1 = [] from by unfold sgI; rw [if_neg (by simpa using hg)]];exact List.append_nil _
         have hle:(t:Int) / 128 <= 0:=by omega
         have Hp:=lH hp;clear hp;go_wp2_with fail;go_roundw
         case rel => exact ⟨0,by omega,rfl,lH (by rw [Hp.out,<- hW]; exact HO.out),HS⟩
         case measure => simp [intOf]
     · have hand:=and127_of ((t:Int) % 256) ((t:Int) % 128) (by omega) (by omega) (by omega);have hlen:(preI ((c:Int) * 64 + 31) t 0).length <= 1099511627776:=by
         show ([_] ++ sgI t 2 ++ sgI t 1).length <= _
         unfold sgI
         split <;> split <;> simp
       have hXs:X = strOfNums (preI ((c:Int) * 64 + 31) t 0 ++ [(t:Int) % 128]):=by
         rw [HX.out,bs_nums];unfold tagL;rw [if_neg (by omega)]
         show bs _ = bs ((([_] ++ sgI t 2 ++ sgI t 1) ++ [_]).map _)
         rw [List.map_append,List.map_append,List.map_append,<- sg_map,<- sg_map];have e1:UInt8.ofNat (first c 31 false) = UInt8.ofNat ((c:Int) * 64 + 31).toNat:=by congr 1; unfold first; simp; omega
         have e2:UInt8.ofNat (t % 128) = UInt8.ofNat ((t:Int) % 128).toNat:=by congr 1
         rw [e1,e2];rfl
       go_wp2_with (at_builtin; refine app_one elem8 rfl _ _ (by rfl) _ wr _ _ _ (by rfl) HO.out HS.out _ (by rfl) rfl hlen (by decide) ?_)
       intro v' w2 hO2 hS2;have g:=conv_own w2 _ v' ((preI ((c:Int) * 64 + 31) t 0).length + 1) (preI ((c:Int) * 64 + 31) t 0 ++ [(t:Int) % 128]) (by rw [List.map_append]; exact hO2) (Nat.succ_pos _);rw [<- hXs] at g;clear hXs;have HO2:=lH hO2;clear hO2;have HS2:=lH hS2;clear hS2;go_wp2_with fail;go_ret;exact ⟨rfl,Since.step (Since.alloc (Since.refl w) _) HS2.out⟩
theorem tag_mak (c t n:Nat) (b:Bool) (hc:c <= 3) (ht:t <= 2097151) (X:ByteArray) (hX:X = bs (tagL c t b)):Mak 134 #[.agg #[.int .i64 (c:Int),.int .i64 (t:Int),.bool b,.int .i64 (n:Int)]] (.string X):=by
 by_cases h:t < 31
 · exact tag_short c t n b hc h X hX
 · exact tag_long c t n b hc (by omega) ht X hX
set_option maxHeartbeats 2000000 in
theorem len_mak (n:Nat) (hn:n <= 65535) (X:ByteArray) (hX:X = bs (lenL n)):Mak 135 #[.int .i64 (n:Int)] (.string X):=by
 intro w
 by_cases h1:n < 128
 · have hs:strOfNums [(n:Int)] = X:=by rw [hX]; unfold lenL; rw [if_pos h1]; exact one_num n _ rfl
   have g:=conv_lit w w.heap.size rfl [(n:Int)] 1 rfl #[.int .u8 (n:Int)] rfl;rw [hs] at g;clear hs hX
   go_enter Tryz.func135,Tryz.ntmps135
   go_wp2_with fail;go_ret;exact ⟨rfl,(Since.refl w).alloc _⟩
 · by_cases h2:n < 256
   · have hs:strOfNums [129,(n:Int)] = X:=by rw [hX]; unfold lenL; rw [if_neg h1,if_pos h2]; rfl
     have g:=conv_lit w w.heap.size rfl [129,(n:Int)] 2 rfl #[.int .u8 129,.int .u8 (n:Int)] rfl;rw [hs] at g;clear hs hX
     go_enter Tryz.func135,Tryz.ntmps135
     go_wp2_with fail;go_ret;exact ⟨rfl,(Since.refl w).alloc _⟩
   · have hs:strOfNums [130,(n:Int) / 256,(n:Int) % 256] = X:=by
       rw [hX]; unfold lenL; rw [if_neg h1,if_neg h2]; rfl
     have g:=conv_lit w w.heap.size rfl [130,(n:Int) / 256,(n:Int) % 256] 3 rfl #[.int .u8 130,.int .u8 ((n:Int) / 256),.int .u8 ((n:Int) % 256)] rfl;rw [hs] at g;clear hs hX
     go_enter Tryz.func135,Tryz.ntmps135
     go_wp2_with fail;go_ret;exact ⟨rfl,(Since.refl w).alloc _⟩
set_option maxHeartbeats 4000000 in
theorem enc_ok (c t n:Nat) (b:Bool) (hc:c <= 3) (ht:t <= 2097151) (hn:n <= 65535) (X:ByteArray) (hX:X = bs (encL c t b n)):Mak 99 #[.agg #[.int .i64 (c:Int),.int .i64 (t:Int),.bool b,.int .i64 (n:Int)]] (.tuple #[.string X,.int .i64 0]):=by
 intro w;have c1:=tag_mak c t n b hc ht _ rfl;have c2:=len_mak n hn _ rfl;have hX2:bs (tagL c t b) ++ bs (lenL n) = X:=by rw [hX]; apply ba_ext; rw [app_list]; rfl
 have hsz:¬ 9223372036854775807 < (bs (tagL c t b)).size + (bs (lenL n)).size:=by
   have h1:(tagL c t b).length <= 4:=by
     unfold tagL
     split
     · simp
     · unfold seg; split <;> split <;> simp
   have h2:(lenL n).length <= 3:=by unfold lenL; split <;> (try split) <;> simp
   rw [size_bs,size_bs]; omega
 obtain ⟨A,hA⟩:∃ A,A = bs (tagL c t b):=⟨_,rfl⟩
 obtain ⟨B,hB⟩:∃ B,B = bs (lenL n):=⟨_,rfl⟩
 rw [<- hA] at c1 hX2 hsz;rw [<- hB] at c2 hX2 hsz;clear hX;have HA:=lH hA;clear hA;have HB:=lH hB;clear hB;have HW:=lH (Since.refl (w.alloc (.cells #[.int .i64 (c:Int),.int .i64 (t:Int),.bool b,.int .i64 (n:Int)] 115)))
 go_enter Tryz.func99,Tryz.ntmps99
 go_wp2_with fail
 go_region_with (first
   | (go_at_call 134; refine c1.calls (Since.drew HW.out) ?_; intro w5 h5; obtain ⟨q0,q1,q2,q3⟩:=box4 h5; have H5:=lH h5; clear h5)
   | (go_at_call 135; refine c2.calls H5.out ?_; intro w6 h6; have H6:=lH h6; clear h6))
 all_goals
   go_wp2_with fail;go_ret2;exact ⟨rfl,Since.step (Since.alloc (Since.refl w) _) H6.out⟩
end Head
end Go.Proofs.YtpanhhjkecebkaaGreat
