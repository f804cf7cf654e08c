import Derived.Test.YtpanhhjkecebkaaGreatPt4
import Derived.OpenShut
set_option maxRecDepth 100000
namespace Go.Proofs.YtpanhhjkecebkaaGreat
open Go.RowKit
def SlR (w:World) (k:Nat) (v:Value) (n:Nat) (cs:List Value):Prop :=
 cs.length = n * k /\ ∃ A c,v = .slice A n c /\ n <= c /\ c <= maxLen /\ (n = 0 ∨ ∃ b o,A = some ⟨b,o,none⟩ /\ b < w.heap.size /\ ∀ i u,cs[i]? = some u -> w.cell? ⟨b,o + i,none⟩ = some u)
theorem SlR.below {w w':World} {k n:Nat} {v:Value} {cs:List Value} (h:SlR w k v n cs) (hb:Below w.heap.size w w'):SlR w' k v n cs:=by
 obtain ⟨hl,A,c,rfl,h1,h2,h3⟩:=h;refine ⟨hl,A,c,rfl,h1,h2, ?_⟩;rcases h3 with h3 | ⟨b,o,rfl,hlt,hc⟩
 · exact Or.inl h3
 · exact Or.inr ⟨b,o,rfl,Nat.lt_of_lt_of_le hlt hb.size,fun i u hu => (hb.cell (p:=⟨b,o + i,none⟩) hlt).trans (hc i u hu)⟩
theorem SlR.since {w w':World} {k n:Nat} {v:Value} {cs:List Value} (h:SlR w k v n cs) (hs:Since w w'):SlR w' k v n cs:=SlR.below h hs
theorem SlR.own {w:World} {base:Nat} {e:TypeId} {k n:Nat} {v:Value} {cs:List Value} (h:w.ownsRow base e k v n cs):SlR w k v n cs:=by
 obtain ⟨h1,h2⟩:=h;rcases h2 with ⟨rfl,hn⟩ | ⟨g,cap,cur,rfl,hb,hg,hn,hm,hsz,htk⟩
 · subst hn;exact ⟨h1,none,0,rfl,Nat.le_refl _,Nat.zero_le _,Or.inl rfl⟩
 · refine ⟨h1,_,_,rfl,hn,hm,Or.inr ⟨g,0,rfl,(Array.getElem?_eq_some_iff.1 hg).1,fun i u hu => ?_⟩⟩;unfold World.cell?;rw [hg];rw [<- htk,List.getElem?_take] at hu
   split at hu
   · rw [Nat.zero_add]
     simpa using hu
   · cases hu
theorem SlR.nil (w:World) (k:Nat):SlR w k (.slice none 0 0) 0 []:=⟨by simp,none,0,rfl,Nat.le_refl _,Nat.zero_le _,Or.inl rfl⟩
theorem SlR.empty {w:World} {k n:Nat} {v:Value} {cs:List Value} (h:SlR w k v n cs) (hn:n = 0):∃ A c,v = .slice A 0 c /\ c <= maxLen:=by
 subst hn;obtain ⟨_,A,c,hv,_,hc,_⟩:=h;exact ⟨A,c,hv,hc⟩
theorem SlR.form {w:World} {k n:Nat} {v:Value} {cs:List Value} (h:SlR w k v n cs) (hn:0 < n) :
   ∃ b o c,v = .slice (some ⟨b,o,none⟩) n c /\ n <= c /\ c <= maxLen /\ b < w.heap.size /\ ∀ i u,cs[i]? = some u -> w.cell? ⟨b,o + i,none⟩ = some u:=by
 obtain ⟨_,A,c,rfl,h1,h2,h3⟩:=h;rcases h3 with h3 | ⟨b,o,rfl,hlt,hc⟩
 · omega
 · exact ⟨b,o,c,rfl,h1,h2,hlt,hc⟩
theorem SlR.slice {w:World} {k n:Nat} {v:Value} {cs:List Value} (h:SlR w k v n cs):∃ A c,v = .slice A n c /\ n <= c /\ c <= maxLen:=by
 obtain ⟨_,A,c,rfl,h1,h2,_⟩:=h;exact ⟨A,c,rfl,h1,h2⟩
theorem SlR.le {w:World} {k n:Nat} {v:Value} {cs:List Value} (h:SlR w k v n cs):n <= 9223372036854775807:=by
 obtain ⟨_,A,c,rfl,h1,h2,_⟩:=h;unfold maxLen at h2;omega
theorem SlR.lit (w:World) (k n:Nat) (cs:List Value) (hn:cs.length = n * k) (hm:n <= maxLen) (C:Array Value) (hc:C = cs.toArray) (t:TypeId) :
   SlR (w.alloc (.cells C t)) k (.slice (some ⟨w.heap.size,0,none⟩) n n) n cs:=by
 subst hc;refine ⟨hn,_,_,rfl,Nat.le_refl _,hm,Or.inr ⟨_,_,rfl,by simp,fun i u hu => ?_⟩⟩;unfold World.cell?;rw [heap_alloc_new w]
 simpa using hu
theorem SlR.tail {w:World} {n:Nat} {A:Option Addr} {c:Nat} {cs:List Value} (h:SlR w 1 (.slice A n c) n cs) {t e:TypeId} (ht:Tryz.prog.underlying t = some (.slice e)) (hz:∀ w,(Go.sizeOf e).run Tryz.prog w = .ok 1 w)
   (j m d:Nat) (hm:n = j + m) (hd:c = j + d) :
   ∃ A',SlR w 1 (.slice A' m d) m (cs.drop j) /\ ∀ W,(Instr.slice t (.slice A n c) (some (.int .i64 (j:Int))) none none).run Tryz.prog W = .ok (.slice A' m d) W:=by
 have hl:cs.length = n * 1:=h.1;obtain ⟨_,A9,c9,h9,h1,h2,h3⟩:=h;obtain ⟨rfl,-,rfl⟩:=Value.slice.inj h9;have ht':Tryz.prog.underlying t = some (.slice (Tryz.prog.elem t)):=by simp [Program.elem,ht]
 have he:Tryz.prog.elem t = e:=by simp [Program.elem,ht]
 refine ⟨if c = j then A else A.map (·.add (j * 1)),⟨by rw [List.length_drop,hl]; omega,_,_,rfl,by omega,by omega, ?_⟩,fun W => ?_⟩
 · by_cases h0:m = 0
   · exact Or.inl h0
   · rcases h3 with h3 | ⟨b,o,rfl,hlt,hc⟩
     · omega
     · refine Or.inr ⟨b,o + j, ?_,hlt,fun i u hu => ?_⟩
       · rw [if_neg (by omega)]
         by_cases hj:j = 0 <;> simp [Addr.add,hj]
       · rw [List.getElem?_drop] at hu;rw [Nat.add_assoc];exact hc _ _ hu
 · rw [run_slice_l W t _ _ _ ht' .i64 _ (by omega) (by omega),he,hz];simp only [Result.andThen,sliced,Int.toNat_natCast];rw [show n - j = m from by omega,show c - j = d from by omega]
def IntsS (w:World) (v:Value) (xs:List Int):Prop:=SlR w 1 v xs.length (xs.map (Value.int .i64))
def StrsS (w:World) (v:Value) (ss:List ByteArray):Prop:=SlR w 1 v ss.length (ss.map Value.string)
theorem IntsS.since {w w':World} {v:Value} {xs:List Int} (h:IntsS w v xs) (hs:Since w w'):IntsS w' v xs:=SlR.below h hs
theorem IntsS.nil (w:World):IntsS w (.slice none 0 0) []:=SlR.nil w 1
theorem StrsS.nil (w:World):StrsS w (.slice none 0 0) []:=SlR.nil w 1
theorem IntsS.form {w:World} {v:Value} {xs:List Int} (h:IntsS w v xs) (hn:0 < xs.length) :
   ∃ b o c,v = .slice (some ⟨b,o,none⟩) xs.length c /\ xs.length <= c /\ c <= maxLen /\ b < w.heap.size /\ ∀ i,i < xs.length -> w.cell? ⟨b,o + i,none⟩ = some (.int .i64 (xs.getD i 0)):=by
 obtain ⟨b,o,c,hv,h1,h2,h3,h4⟩:=SlR.form h hn;exact ⟨b,o,c,hv,h1,h2,h3,fun i hi => h4 i _ (by simp [List.getD,hi])⟩
theorem IntsS.le {w:World} {v:Value} {xs:List Int} (h:IntsS w v xs):xs.length <= 9223372036854775807:=SlR.le h
theorem IntsS.slice {w:World} {v:Value} {xs:List Int} (h:IntsS w v xs):∃ A c,v = .slice A xs.length c /\ xs.length <= c /\ c <= maxLen:=SlR.slice h
theorem ints_arg {H:Type} {enc:TypeId × Value -> H} {w:World} {spare:Nat -> Bool} {held:Bool} {fuel:Nat} {A:Option Addr} {n c:Nat} {d:DataW H} {ps:List MemPlace} {t e:TypeId}
   (ht:Tryz.prog.underlying t = some (.slice e)) (he:Tryz.prog.underlying e = some (.int .i64)) (hce:Tryz.prog.cellsOf e = 1)
   (hf:DataW.trod enc Tryz.prog w 0 spare held fuel t (Value.slice A n c).cells.toList = some (d,ps)) (hlt:∀ x ∈ ps,x.block < w.heap.size) :
   ∃ xs,IntsS w (.slice A n c) xs /\ n = xs.length /\ ∀ x ∈ xs,(Lit.int .i64 x).wf = true:=by
 rcases Go.ChangeShapes.open_ints ht he hce hf with ⟨hcs,hx⟩ | ⟨a,len',cap',zs,hcs,_,hl,hm,hz,hx,hcell,hws⟩
 · simp [Value.cells] at hcs;obtain ⟨rfl,rfl,rfl⟩:=hcs;exact ⟨[],IntsS.nil w,rfl,by simp⟩
 · simp [Value.cells] at hcs;obtain ⟨rfl,rfl,rfl⟩:=hcs;simp only [Prod.mk.injEq] at hx;obtain ⟨rfl,rfl⟩:=hx;have hn:n <= zs.length:=by rw [hz]; split <;> omega
   have hlen:(zs.take n).length = n:=by simp; omega
   refine ⟨zs.take n,⟨by simp,some a,c,by rw [hlen],by rw [hlen]; exact hl,hm, ?_⟩,hlen.symm,fun x hx => hws x (List.mem_of_mem_take hx)⟩
   by_cases h0:n = 0
   · left; rw [h0]; rfl
   · right
     obtain ⟨b,off,spot⟩:=a;have hspot:spot = none:=by simpa [Addr.add] using World.cell?_spot (hcell 0 (by omega))
     subst hspot;refine ⟨b,off,rfl,hlt (.cell b off) (MemPlace.mem_row.2 ⟨0,by omega,by simp⟩),fun i u hu => ?_⟩;obtain ⟨hi,hu2⟩:=List.getElem?_eq_some_iff.1 hu;simp only [List.length_map,hlen] at hi;have h9:=hcell i (by omega);have hadd:(⟨b,off,none⟩:Addr).add i = ⟨b,off + i,none⟩:=by unfold Addr.add; split <;> simp_all
     rw [hadd] at h9;rw [h9,<- hu2];simp [List.getD,show i < zs.length from by omega]
namespace Oid
theorem conv_any (x:Int) (S:ByteArray) (hS:strOfNums [x] = S):∀ (W:World) (g:Nat),W.cell? ⟨g,0,none⟩ = some (.int .u8 x) -> ∀ dst,Tryz.prog.underlying dst = some .string -> (convert 99 dst (.slice (some ⟨g,0,none⟩) 1 1)).run Tryz.prog W = .ok (.string S) W:=by
 subst hS;intro W g hc;refine run_convert_bytes_arg (P:=Tryz.prog) W 99 5 Tryz.underlying99 Tryz.underlying5 g 0 1 1 [x] rfl fun i hi => ?_
 obtain rfl:i = 0:=by omega
 exact hc
theorem i64_nat (a:Nat) (ha:a < 9223372036854775808):(BitVec.ofInt 64 (a:Int)).toNat = a:=by
 rw [BitVec.toNat_ofInt]; omega
theorem i64_and_nat (a b:Nat) (ha:a < 9223372036854775808) (hb:b < 9223372036854775808):bits .and .i64 (a:Int) (b:Int) = ((a &&& b:Nat):Int):=by
 have hx:a &&& b < 2 ^ 63:=Nat.and_lt_two_pow _ (by omega)
 show IntKind.i64.wrap ((BitVec.ofInt 64 (a:Int) &&& BitVec.ofInt 64 (b:Int)).toNat:Int) = _
 rw [BitVec.toNat_and,i64_nat a ha,i64_nat b hb,IntWalk.i64_in _ (by omega)]
theorem i64_or_nat (a b:Nat) (ha:a < 9223372036854775808) (hb:b < 9223372036854775808):bits .or .i64 (a:Int) (b:Int) = ((a ||| b:Nat):Int):=by
 have hx:a ||| b < 2 ^ 63:=Nat.or_lt_two_pow (by omega) (by omega)
 show IntKind.i64.wrap ((BitVec.ofInt 64 (a:Int) ||| BitVec.ofInt 64 (b:Int)).toNat:Int) = _
 rw [BitVec.toNat_or,i64_nat a ha,i64_nat b hb,IntWalk.i64_in _ (by omega)]
theorem i64_and127 (a:Nat) (ha:a < 9223372036854775808):bits .and .i64 (a:Int) 127 = ((a % 128:Nat):Int):=by
 have h:=i64_and_nat a 127 ha (by decide);rw [nat_mask7] at h;exact h
theorem i64_or_low (a b:Nat) (ha:a < 72057594037927936) (hb:b < 128):bits .or .i64 ((a * 128:Nat):Int) (b:Int) = ((a * 128 + b:Nat):Int):=by
 rw [i64_or_nat _ _ (by omega) (by omega),nat_join 7 _ _ (by omega) (by omega)]
theorem or128:∀ n:Fin 256,bits .or .u8 ((n.1:Nat):Int) 128 = ((n.1 % 128 + 128:Nat):Int):=by decide
theorem or128_of (x y:Int) (h0:0 <= x) (hn:x < 256) (hy:y = x % 128 + 128):bits .or .u8 x 128 = y:=by
 have h:=or128 ⟨x.toNat,by omega⟩;have e:((x.toNat:Nat):Int) = x:=by omega
 simp only [e] at h;rw [h,hy]; omega
set_option maxHeartbeats 2000000 in
theorem number_mak (n:Nat) (hn:n < 34359738368) (X:ByteArray) (hX:X = bs (num n)):Mak 95 #[.int .i64 (n:Int)] (.string X):=by
 intro w;have K0:=conv_any ((n:Int) % 128) (bs [UInt8.ofNat (n % 128)]) rfl;have B0:=i64_and127 n (by omega);have e0:IntKind.u8.wrap ((n % 128:Nat):Int) = ((n % 128:Nat):Int):=IntWalk.u8_in _ (by omega);have HX:=lH hX;clear hX
 go_enter Tryz.func95,Tryz.ntmps95
 go_wp2_with fail;clear K0;go_loopw [0,3] (fun v s wr => ∃ (q:Nat) (L:List UInt8),v = .int .i64 (q:Int) /\ s = .string (bs L) /\ q < 34359738368 /\ L.length <= 5 /\ Hid (num n = hi q ++ L) /\ Hid (Since w wr)) (fun v _ _ => (intOf v).toNat)
 case atStart => exact ⟨n / 128,[UInt8.ofNat (n % 128)],by simp,rfl,by omega,by simp,lH rfl,lH ((Since.refl w).alloc _)⟩
 case round =>
   obtain ⟨q,L,rfl,rfl,hq,hL,HC,HS⟩:=hrel
   by_cases h0:q = 0
   · subst h0;have hXL:X = bs L:=by rw [HX.out,HC.out,hi_0]; rfl
     subst hXL;go_wp2_with fail;go_ret;exact ⟨rfl,HS.out⟩
   · have hpos:0 < q:=by omega
     obtain ⟨d,hd⟩:∃ d:UInt8,d = UInt8.ofNat (q % 128 + 128):=⟨_,rfl⟩
     have K1:=conv_any ((q:Int) % 128 + 128) (bs [d]) (by rw [hd,show (q:Int) % 128 + 128 = ((q % 128 + 128:Nat):Int) from by omega]; rfl);have B1:=or128_of ((q:Int) % 256) ((q:Int) % 128 + 128) (by omega) (by omega) (by omega);have hcat:bs [d] ++ bs L = bs (d :: L):=by apply ba_ext; rw [app_list]; rfl
     have hsz:¬ 9223372036854775807 < (bs [d]).size + (bs L).size:=by rw [size_bs,size_bs]; simp; omega
     have n3:num n = hi (q / 128) ++ (d :: L):=by rw [HC.out,hi_pos q hpos,hd,List.append_assoc]; rfl
     have n2:(d :: L).length <= 5:=by
       have h:=num_len n hn;rw [n3,List.length_append] at h;omega
     have HN3:=lH n3;clear n3 hd;generalize hLL:bs (d :: L) = LL at hcat;go_wp2_with fail;go_roundw
     case rel => exact ⟨q / 128,d :: L,by simp,by rw [hLL],by omega,n2,HN3,lH (HS.out.alloc _)⟩
     case measure => simp [intOf]; omega
set_option maxHeartbeats 2000000 in
theorem rnumber_mak (n:Nat) (hn:n < 34359738368) (X:ByteArray) (hX:X = bs (num n)):Mak 102 #[.int .i64 (n:Int)] (.string X):=by
 intro w;have K0:=conv_any ((n:Int) % 128) (bs [UInt8.ofNat (n % 128)]) rfl;have HX:=lH hX;clear hX
 go_enter Tryz.func102,Tryz.ntmps102
 go_wp2_with fail;clear K0;go_loopw [0,3] (fun v s wr => ∃ (q:Nat) (L:List UInt8),v = .int .i64 (q:Int) /\ s = .string (bs L) /\ q < 34359738368 /\ L.length <= 5 /\ Hid (num n = hi q ++ L) /\ Hid (Since w wr)) (fun v _ _ => (intOf v).toNat)
 case atStart => exact ⟨n / 128,[UInt8.ofNat (n % 128)],by simp,rfl,by omega,by simp,lH rfl,lH ((Since.refl w).alloc _)⟩
 case round =>
   obtain ⟨q,L,rfl,rfl,hq,hL,HC,HS⟩:=hrel
   by_cases h0:q = 0
   · subst h0;have hXL:X = bs L:=by rw [HX.out,HC.out,hi_0]; rfl
     subst hXL;go_wp2_with fail;go_ret;exact ⟨rfl,HS.out⟩
   · have hpos:0 < q:=by omega
     obtain ⟨d,hd⟩:∃ d:UInt8,d = UInt8.ofNat (q % 128 + 128):=⟨_,rfl⟩
     have K1:=conv_any (128 + (q:Int) % 128) (bs [d]) (by rw [hd,show (128:Int) + (q:Int) % 128 = ((q % 128 + 128:Nat):Int) from by omega]; rfl);have hcat:bs [d] ++ bs L = bs (d :: L):=by apply ba_ext; rw [app_list]; rfl
     have hsz:¬ 9223372036854775807 < (bs [d]).size + (bs L).size:=by rw [size_bs,size_bs]; simp; omega
     have n3:num n = hi (q / 128) ++ (d :: L):=by rw [HC.out,hi_pos q hpos,hd,List.append_assoc]; rfl
     have n2:(d :: L).length <= 5:=by
       have h:=num_len n hn;rw [n3,List.length_append] at h;omega
     have HN3:=lH n3;clear n3 hd;generalize hLL:bs (d :: L) = LL at hcat;go_wp2_with fail;go_roundw
     case rel => exact ⟨q / 128,d :: L,by simp,by rw [hLL],by omega,n2,HN3,lH (HS.out.alloc _)⟩
     case measure => simp [intOf]; omega
end Oid
end Go.Proofs.YtpanhhjkecebkaaGreat
