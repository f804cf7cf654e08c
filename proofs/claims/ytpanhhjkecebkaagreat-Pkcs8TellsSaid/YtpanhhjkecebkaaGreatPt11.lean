import Derived.Test.YtpanhhjkecebkaaGreatPt6
import Derived.BigQuiet
set_option maxRecDepth 100000
namespace Go.Proofs.YtpanhhjkecebkaaGreat
open Go.RowKit
namespace Head
theorem drop_cons (s:ByteArray) (i:Nat) (h:i < s.size):s.data.toList.drop i = s[i] :: s.data.toList.drop (i + 1):=by
 rw [List.drop_eq_getElem_cons (show i < s.data.toList.length from h)]; rfl
theorem or_low8 (n:Int) (c:Nat) (hc:c < 256) (h1:0 <= n) (h2:n <= 281474976710656):bits .or .i64 (n * 256) (c:Int) = n * 256 + (c:Int):=by
 show IntKind.i64.wrap ((BitVec.ofInt 64 (n * 256) ||| BitVec.ofInt 64 (c:Int)).toNat:Int) = _
 rw [BitVec.toNat_or,BitVec.toNat_ofInt,BitVec.toNat_ofInt];obtain ⟨q,hq⟩:∃ q:Nat,((n * 256) % ((2 ^ 64:Nat):Int)).toNat = 2 ^ 8 * q:=⟨((n * 256) % ((2 ^ 64:Nat):Int)).toNat / 2 ^ 8,by omega⟩
 have hcc:((c:Int) % ((2 ^ 64:Nat):Int)).toNat = c:=by omega
 rw [hq,hcc,<- Nat.two_pow_add_eq_or_of_lt (i:=8) (by omega),<- hq];simp only [IntKind.wrap,IntKind.bits,IntKind.signed];have h2p:((2 ^ 64:Nat):Int) = 18446744073709551616:=by decide
 rw [h2p];clear hq hcc;simp;omega
theorem or_low7 (n:Int) (c:Nat) (hc:c < 128) (h1:0 <= n) (h2:n <= 281474976710656):bits .or .i64 (n * 128) (c:Int) = n * 128 + (c:Int):=by
 show IntKind.i64.wrap ((BitVec.ofInt 64 (n * 128) ||| BitVec.ofInt 64 (c:Int)).toNat:Int) = _
 rw [BitVec.toNat_or,BitVec.toNat_ofInt,BitVec.toNat_ofInt];obtain ⟨q,hq⟩:∃ q:Nat,((n * 128) % ((2 ^ 64:Nat):Int)).toNat = 2 ^ 7 * q:=⟨((n * 128) % ((2 ^ 64:Nat):Int)).toNat / 2 ^ 7,by omega⟩
 have hcc:((c:Int) % ((2 ^ 64:Nat):Int)).toNat = c:=by omega
 rw [hq,hcc,<- Nat.two_pow_add_eq_or_of_lt (i:=7) (by omega),<- hq];simp only [IntKind.wrap,IntKind.bits,IntKind.signed];have h2p:((2 ^ 64:Nat):Int) = 18446744073709551616:=by decide
 rw [h2p];clear hq hcc;simp;omega
theorem lenL_1 (n:Nat) (h:n < 128):(bs (lenL n)).size = 1:=by rw [size_bs]; unfold lenL; rw [if_pos h]; rfl
theorem lenL_2 (n:Nat) (h:128 <= n) (h2:n < 256):(bs (lenL n)).size = 2:=by rw [size_bs]; unfold lenL; rw [if_neg (by omega),if_pos h2]; rfl
theorem lenL_3 (n:Nat) (h:256 <= n):(bs (lenL n)).size = 3:=by rw [size_bs]; unfold lenL; rw [if_neg (by omega),if_neg (by omega)]; rfl
set_option maxHeartbeats 4000000 in
theorem rlen_mak (s:ByteArray) (hm:s.size <= 1000000) (n k e:Nat) (h:lenR s.data.toList = (n,k,e)):Mak 153 #[.string s] (.tuple #[.int .i64 (n:Int),.int .i64 (k:Int),.int .i64 (e:Int)]):=by
 intro w;have H0:=lH (Since.refl w)
 by_cases h0:s.size = 0
 · obtain rfl:s = ⟨#[]⟩:=ba_ext (List.eq_nil_of_length_eq_zero h0);cases h;clear hm h0
   go_enter Tryz.func153,Tryz.ntmps153
   go_wp2_with fail;refine wp_scope_some 1 ?_;go_wp2_with fail
   go_step3
   refine ⟨_,rfl, ?_⟩;go_wp2_with fail
   go_ret3
   exact ⟨rfl,H0.out⟩
 · have hp:0 < s.size:=by omega
   rw [show s.data.toList = s[0] :: s.data.toList.drop 1 from drop_cons s 0 hp] at h;have hne:=some_bytes_f s hp;have hlt:=s[0].toNat_lt;clear h0
   by_cases a1:s[0].toNat = 128
   · have hv:lenR (s[0] :: s.data.toList.drop 1) = (0,0,5):=by unfold lenR; simp [a1]
     rw [hv] at h;cases h;have hz:(s[0].toNat:Int) = 128:=by omega
     clear hv
     go_enter Tryz.func153,Tryz.ntmps153
     go_wp2_with fail;refine wp_scope_some 1 ?_;go_wp2_with fail
     go_step3
     refine ⟨_,rfl, ?_⟩;go_wp2_with fail
     go_ret3
     exact ⟨rfl,H0.out⟩
   · by_cases a2:s[0].toNat < 128
     · have hv:lenR (s[0] :: s.data.toList.drop 1) = (s[0].toNat,1,0):=by unfold lenR; simp [a1,a2]
       rw [hv] at h;cases h;have hb:((s[0].toNat:Int) == 128) = false:=by rw [beq_eq_false_iff_ne]; omega
       clear hv a1
       go_enter Tryz.func153,Tryz.ntmps153
       go_wp2_with fail;refine wp_scope_some 1 ?_;go_wp2_with fail;simp only [Exit.jumps]
       go_ret3
       exact ⟨rfl,H0.out⟩
     · have hb:((s[0].toNat:Int) == 128) = false:=by rw [beq_eq_false_iff_ne]; omega
       by_cases a3:130 < s[0].toNat
       · have hv:lenR (s[0] :: s.data.toList.drop 1) = (0,0,4):=by unfold lenR; simp [a1,a2,a3]
         rw [hv] at h;cases h;have hge:128 <= s[0].toNat:=by omega
         clear hv a1 a2
         go_enter Tryz.func153,Tryz.ntmps153
         go_wp2_with fail;refine wp_scope_some 1 ?_;go_wp2_with fail;simp only [Exit.jumps]
         go_ret3
         exact ⟨rfl,H0.out⟩
       · by_cases a4:s[0].toNat = 129
         · have hz:(s[0].toNat:Int) = 129:=by omega
           by_cases l1:s.size <= 1
           · have hd:s.data.toList.drop 1 = []:=List.drop_eq_nil_of_le l1;have hv:lenR (s[0] :: s.data.toList.drop 1) = (0,0,5):=by rw [hd]; unfold lenR; simp [a4]
             rw [hv] at h;cases h;clear hv a1 a2 a3 a4 hd hlt
             go_enter Tryz.func153,Tryz.ntmps153
             go_wp2_with fail;refine wp_scope_some 1 ?_;go_wp2_with fail
             go_step3
             refine ⟨_,rfl, ?_⟩;go_wp2_with fail
             go_ret3
             exact ⟨rfl,H0.out⟩
           · have hp1:1 < s.size:=by omega
             have hd:=drop_cons s 1 hp1;have hlt1:=s[1].toNat_lt;have ho:=or_low8 0 s[1].toNat hlt1 (by omega) (by omega);simp only [Int.zero_mul,Int.zero_add] at ho
             by_cases g:128 <= s[1].toNat
             · have hv:lenR (s[0] :: s.data.toList.drop 1) = (s[1].toNat,2,0):=by rw [hd]; unfold lenR; simp [a4,g]
               rw [hv] at h;cases h;have c1:=len_mak s[1].toNat (by omega) _ rfl;have hA:=lenL_2 s[1].toNat g hlt1;obtain ⟨A,hA2⟩:∃ A,A = bs (lenL s[1].toNat):=⟨_,rfl⟩
               rw [<- hA2] at c1 hA;have hA3:((A.size:Int) == 2) = true:=by rw [hA]; rfl
               clear hv a1 a2 a3 a4 hd hlt l1 hA2
               go_enter Tryz.func153,Tryz.ntmps153
               go_wp2_with fail;refine wp_scope_some 1 ?_;go_wp2_with fail
               go_loop [5,32] (fun v i => (i = .int .i64 0 /\ v = .int .i64 0) ∨ (i = .int .i64 1 /\ v = .int .i64 (s[1].toNat:Int))) (fun _ i => 1 - (intOf i).toNat)
               case atStart => exact Or.inl ⟨rfl,rfl⟩
               case round =>
                 rcases hrel with ⟨rfl,rfl⟩ | ⟨rfl,rfl⟩
                 · go_wp2_with fail
                   go_round
                   case rel => exact Or.inr ⟨rfl,rfl⟩
                   case measure => decide
                 · go_wp2_with fail;refine (c1).calls H0.out ?_;intro w1 h1;have H1:=lH h1;clear h1;go_wp2_with fail;simp only [Exit.jumps]
                   go_ret3
                   exact ⟨rfl,H1.out⟩
             · have hv:lenR (s[0] :: s.data.toList.drop 1) = (0,0,5):=by rw [hd]; unfold lenR; simp [a4,g]
               rw [hv] at h;cases h;have c1:=len_mak s[1].toNat (by omega) _ rfl;have hA:=lenL_1 s[1].toNat (by omega);obtain ⟨A,hA2⟩:∃ A,A = bs (lenL s[1].toNat):=⟨_,rfl⟩
               rw [<- hA2] at c1 hA;have hA3:((A.size:Int) == 2) = false:=by rw [hA]; rfl
               clear hv a1 a2 a3 a4 hd hlt l1 hA2
               go_enter Tryz.func153,Tryz.ntmps153
               go_wp2_with fail;refine wp_scope_some 1 ?_;go_wp2_with fail
               go_loop [5,32] (fun v i => (i = .int .i64 0 /\ v = .int .i64 0) ∨ (i = .int .i64 1 /\ v = .int .i64 (s[1].toNat:Int))) (fun _ i => 1 - (intOf i).toNat)
               case atStart => exact Or.inl ⟨rfl,rfl⟩
               case round =>
                 rcases hrel with ⟨rfl,rfl⟩ | ⟨rfl,rfl⟩
                 · go_wp2_with fail
                   go_round
                   case rel => exact Or.inr ⟨rfl,rfl⟩
                   case measure => decide
                 · go_wp2_with fail;refine (c1).calls H0.out ?_;intro w1 h1;have H1:=lH h1;clear h1;go_wp2_with fail
                   go_step3
                   go_wp2_with fail
                   (try simp only [Exit.jumps])
                   go_ret3
                   exact ⟨rfl,H1.out⟩
         · have hz:(s[0].toNat:Int) = 130:=by omega
           by_cases l1:s.size <= 2
           · have hv:lenR (s[0] :: s.data.toList.drop 1) = (0,0,5):=by
               by_cases l2:s.size <= 1
               · rw [show s.data.toList.drop 1 = [] from List.drop_eq_nil_of_le l2]; unfold lenR; simp [a1,a2,a3,a4]
               · rw [drop_cons s 1 (by omega),show s.data.toList.drop (1 + 1) = [] from List.drop_eq_nil_of_le l1]; unfold lenR; simp [a1,a2,a3,a4]
             rw [hv] at h;cases h;clear hv a1 a2 a3 a4 hlt
             go_enter Tryz.func153,Tryz.ntmps153
             go_wp2_with fail;refine wp_scope_some 1 ?_;go_wp2_with fail
             go_step3
             refine ⟨_,rfl, ?_⟩;go_wp2_with fail
             go_ret3
             exact ⟨rfl,H0.out⟩
           · have hp1:1 < s.size:=by omega
             have hp2:2 < s.size:=by omega
             have hd:s.data.toList.drop 1 = s[1] :: s[2] :: s.data.toList.drop 3:=by rw [drop_cons s 1 hp1,drop_cons s (1 + 1) hp2]
             have hlt1:=s[1].toNat_lt;have hlt2:=s[2].toNat_lt;have ho:=or_low8 0 s[1].toNat hlt1 (by omega) (by omega);simp only [Int.zero_mul,Int.zero_add] at ho;have ho2:=or_low8 s[1].toNat s[2].toNat hlt2 (by omega) (by omega);obtain ⟨N,hN⟩:∃ N:Nat,N = 256 * s[1].toNat + s[2].toNat:=⟨_,rfl⟩
             have hNi:(s[1].toNat:Int) * 256 + (s[2].toNat:Int) = (N:Int):=by omega
             by_cases g:256 <= N
             · have hv:lenR (s[0] :: s.data.toList.drop 1) = (N,3,0):=by rw [hd]; unfold lenR; simp [a1,a2,a3,a4,<- hN,g]
               rw [hv] at h;simp only [Prod.mk.injEq] at h;obtain ⟨e1,e2,e3⟩:=h;subst e1 e2 e3;have c1:=len_mak N (by omega) _ rfl;have hA:=lenL_3 N g;obtain ⟨A,hA2⟩:∃ A,A = bs (lenL N):=⟨_,rfl⟩
               rw [<- hA2] at c1 hA;have hA3:((A.size:Int) == 3) = true:=by rw [hA]; rfl
               clear hv a1 a2 a3 a4 hd hlt l1 hA2 hN
               go_enter Tryz.func153,Tryz.ntmps153
               go_wp2_with fail;refine wp_scope_some 1 ?_;go_wp2_with fail
               go_loop [5,32] (fun v i => (i = .int .i64 0 /\ v = .int .i64 0) ∨ (i = .int .i64 1 /\ v = .int .i64 (s[1].toNat:Int)) ∨ (i = .int .i64 2 /\ v = .int .i64 (N:Int))) (fun _ i => 2 - (intOf i).toNat)
               case atStart => exact Or.inl ⟨rfl,rfl⟩
               case round =>
                 rcases hrel with ⟨rfl,rfl⟩ | ⟨rfl,rfl⟩ | ⟨rfl,rfl⟩
                 · go_wp2_with fail
                   go_round
                   case rel => exact Or.inr (Or.inl ⟨rfl,rfl⟩)
                   case measure => decide
                 · go_wp2_with fail
                   go_round
                   case rel => exact Or.inr (Or.inr ⟨rfl,by first | rfl | (rw [<- hNi]; rfl) | rw [<- hNi]⟩)
                   case measure => decide
                 · go_wp2_with fail;refine (c1).calls H0.out ?_;intro w1 h1;have H1:=lH h1;clear h1;go_wp2_with fail;simp only [Exit.jumps]
                   go_ret3
                   exact ⟨rfl,H1.out⟩
             · have hv:lenR (s[0] :: s.data.toList.drop 1) = (0,0,5):=by rw [hd]; unfold lenR; simp [a1,a2,a3,a4,<- hN,g]
               rw [hv] at h;simp only [Prod.mk.injEq] at h;obtain ⟨e1,e2,e3⟩:=h;subst e1 e2 e3;have c1:=len_mak N (by omega) _ rfl;have hA:(bs (lenL N)).size <= 2:=by
                 by_cases g2:N < 128
                 · rw [lenL_1 N g2]; decide
                 · rw [lenL_2 N (by omega) (by omega)]; decide
               obtain ⟨A,hA2⟩:∃ A,A = bs (lenL N):=⟨_,rfl⟩
               rw [<- hA2] at c1 hA;have hA3:((A.size:Int) == 3) = false:=by rw [beq_eq_false_iff_ne]; omega
               clear hv a1 a2 a3 a4 hd hlt l1 hA2 hN
               go_enter Tryz.func153,Tryz.ntmps153
               go_wp2_with fail;refine wp_scope_some 1 ?_;go_wp2_with fail
               go_loop [5,32] (fun v i => (i = .int .i64 0 /\ v = .int .i64 0) ∨ (i = .int .i64 1 /\ v = .int .i64 (s[1].toNat:Int)) ∨ (i = .int .i64 2 /\ v = .int .i64 (N:Int))) (fun _ i => 2 - (intOf i).toNat)
               case atStart => exact Or.inl ⟨rfl,rfl⟩
               case round =>
                 rcases hrel with ⟨rfl,rfl⟩ | ⟨rfl,rfl⟩ | ⟨rfl,rfl⟩
                 · go_wp2_with fail
                   go_round
                   case rel => exact Or.inr (Or.inl ⟨rfl,rfl⟩)
                   case measure => decide
                 · go_wp2_with fail
                   go_round
                   case rel => exact Or.inr (Or.inr ⟨rfl,by first | rfl | (rw [<- hNi]; rfl) | rw [<- hNi]⟩)
                   case measure => decide
                 · go_wp2_with fail;refine (c1).calls H0.out ?_;intro w1 h1;have H1:=lH h1;clear h1;go_wp2_with fail
                   go_step3
                   go_wp2_with fail
                   (try simp only [Exit.jumps])
                   go_ret3
                   exact ⟨rfl,H1.out⟩
end Head
namespace Head
def hdV (c t:Nat) (b:Bool) (n:Nat):Value:=.agg #[.int .i64 (c:Int),.int .i64 (t:Int),.bool b,.int .i64 (n:Int)]
def tagV:Option (Nat × Nat × Bool × Nat) -> Value
 | none => .tuple #[hdV 0 0 false 0,.int .i64 0,.bool false]
 | some (c,t,b,k) => .tuple #[hdV c t b 0,.int .i64 (k:Int),.bool true]
theorem and31:∀ n:Fin 256,bits .and .u8 ((n.1:Nat):Int) 31 = ((n.1 % 32:Nat):Int):=by decide
theorem and32:∀ n:Fin 256,bits .and .u8 ((n.1:Nat):Int) 32 = if n.1 / 32 % 2 = 1 then 32 else 0:=by decide
set_option maxHeartbeats 4000000 in
theorem rtag_0 (V:Value) (hV:V = tagV (tagR [])):Mak 152 #[.string ⟨#[]⟩] V:=by
 intro w;subst hV
 go_enter Tryz.func152,Tryz.ntmps152
 go_wp2_with fail;refine wp_scope_some 1 ?_;go_wp2_with fail
 go_step3
 refine ⟨_,rfl, ?_⟩;go_wp2_with fail
 (try simp only [Exit.jumps])
 exact bodyPost_ret (v:=tagV none) (by simp [results,Tryz.results152,go_sem]; try rfl) rfl ⟨rfl,by first | exact ((Since.refl w).alloc _).alloc _ | exact (((Since.refl w).alloc _).alloc _).drew | exact ((((Since.refl w).alloc _).alloc _).drew).drew | exact (((((Since.refl w).alloc _).alloc _).drew).drew).drew | exact ((((((Since.refl w).alloc _).alloc _).drew).drew).drew).drew | exact (((((((Since.refl w).alloc _).alloc _).drew).drew).drew).drew).drew | exact H9.out⟩
set_option maxHeartbeats 4000000 in
theorem rtag_short (s:ByteArray) (hp:0 < s.size) (_hm:s.size <= 1000000) (c t:Nat) (b:Bool) (hc:(s[0].toNat:Int) / 64 = (c:Int)) (ht:bits .and .u8 (s[0].toNat:Int) 31 = (t:Int)) (h31:t < 31) (hb:bits .and .u8 (s[0].toNat:Int) 32 = if b then 32 else 0):Mak 152 #[.string s] (tagV (some (c,t,b,1))):=by
 intro w;have hne:=some_bytes_f s hp;have hc3:(c:Int) <= 3:=by have:=s[0].toNat_lt; omega
 cases b with
 | true =>
   simp only [if_true] at hb
   go_enter Tryz.func152,Tryz.ntmps152
   go_wp2_with fail;refine wp_scope_some 1 ?_;go_wp2_with fail
   go_region
   go_wp2_with fail
   (try simp only [Exit.jumps])
   exact bodyPost_ret (v:=tagV (some (c,t,true,1))) (by simp [results,Tryz.results152,go_sem]; try rfl) rfl ⟨rfl,by first | exact ((Since.refl w).alloc _).alloc _ | exact (((Since.refl w).alloc _).alloc _).drew | exact ((((Since.refl w).alloc _).alloc _).drew).drew | exact (((((Since.refl w).alloc _).alloc _).drew).drew).drew | exact ((((((Since.refl w).alloc _).alloc _).drew).drew).drew).drew | exact (((((((Since.refl w).alloc _).alloc _).drew).drew).drew).drew).drew | exact H9.out⟩
 | false =>
   simp only [Bool.false_eq_true,if_false] at hb
   go_enter Tryz.func152,Tryz.ntmps152
   go_wp2_with fail;refine wp_scope_some 1 ?_;go_wp2_with fail
   go_region
   go_wp2_with fail
   (try simp only [Exit.jumps])
   exact bodyPost_ret (v:=tagV (some (c,t,false,1))) (by simp [results,Tryz.results152,go_sem]; try rfl) rfl ⟨rfl,by first | exact ((Since.refl w).alloc _).alloc _ | exact (((Since.refl w).alloc _).alloc _).drew | exact ((((Since.refl w).alloc _).alloc _).drew).drew | exact (((((Since.refl w).alloc _).alloc _).drew).drew).drew | exact ((((((Since.refl w).alloc _).alloc _).drew).drew).drew).drew | exact (((((((Since.refl w).alloc _).alloc _).drew).drew).drew).drew).drew | exact H9.out⟩
theorem set4 {W:World} {B:Nat} {x0 x1 x2 x3:Value} (r0:W.cell? ⟨B,0,none⟩ = some x0) (r1:W.cell? ⟨B,1,none⟩ = some x1) (r2:W.cell? ⟨B,2,none⟩ = some x2) (r3:W.cell? ⟨B,3,none⟩ = some x3) (a b c d:Value) :
   (W.setCell ⟨B,0,none⟩ a).cell? ⟨B,0,none⟩ = some a /\ ((W.setCell ⟨B,0,none⟩ a).setCell ⟨B,1,none⟩ b).cell? ⟨B,1,none⟩ = some b /\ (((W.setCell ⟨B,0,none⟩ a).setCell ⟨B,1,none⟩ b).setCell ⟨B,2,none⟩ c).cell? ⟨B,2,none⟩ = some c /\
     ((((W.setCell ⟨B,0,none⟩ a).setCell ⟨B,1,none⟩ b).setCell ⟨B,2,none⟩ c).setCell ⟨B,3,none⟩ d).cell? ⟨B,3,none⟩ = some d:=by
 refine ⟨World.cell?_setCell_same _ _ _ r0,World.cell?_setCell_same _ _ _ (u:=x1) ?_,World.cell?_setCell_same _ _ _ (u:=x2) ?_,World.cell?_setCell_same _ _ _ (u:=x3) ?_⟩
 · rw [World.cell?_setCell_other _ _ _ _ (by simp)]; exact r1
 · rw [World.cell?_setCell_other _ _ _ _ (by simp),World.cell?_setCell_other _ _ _ _ (by simp)]; exact r2
 · rw [World.cell?_setCell_other _ _ _ _ (by simp),World.cell?_setCell_other _ _ _ _ (by simp),World.cell?_setCell_other _ _ _ _ (by simp)]; exact r3
def chkT (c:Nat) (b:Bool) (l:List UInt8):Option (Nat × Nat) -> Value
 | none => tagV none
 | some (t,k) => if tagL c t b = l.take (k + 1) then tagV (some (c,t,b,k + 1)) else tagV none
theorem tagV_cons (x:UInt8) (l:List UInt8) (h:¬ x.toNat % 32 < 31):tagV (tagR (x :: l)) = chkT (x.toNat / 64) (decide (x.toNat / 32 % 2 = 1)) (x :: l) (digR l):=by
 simp only [tagR,h,if_false];cases digR l with
 | none => rfl
 | some p =>
   show tagV (if _ then _ else _) = if _ then _ else _
   split <;> rfl
theorem digR_1 (x:UInt8) (l:List UInt8) (h:x.toNat < 128):digR (x :: l) = some (x.toNat,1):=by simp [digR,h]
theorem digR_1n (x:UInt8) (h:¬ x.toNat < 128):digR [x] = none:=by simp [digR,h]
theorem digR_2 (x y:UInt8) (l:List UInt8) (h:¬ x.toNat < 128) (h2:y.toNat < 128):digR (x :: y :: l) = some (128 * (x.toNat - 128) + y.toNat,2):=by simp [digR,h,h2]
theorem digR_2n (x y:UInt8) (h:¬ x.toNat < 128) (h2:¬ y.toNat < 128):digR [x,y] = none:=by simp [digR,h,h2]
theorem digR_3 (x y z:UInt8) (l:List UInt8) (h:¬ x.toNat < 128) (h2:¬ y.toNat < 128) (h3:z.toNat < 128):digR (x :: y :: z :: l) = some (128 * (128 * (x.toNat - 128) + (y.toNat - 128)) + z.toNat,3):=by simp [digR,h,h2,h3]
theorem digR_3n (x y z:UInt8) (l:List UInt8) (h:¬ x.toNat < 128) (h2:¬ y.toNat < 128) (h3:¬ z.toNat < 128):digR (x :: y :: z :: l) = none:=by simp [digR,h,h2,h3]
end Head
namespace Head
set_option maxHeartbeats 8000000 in
theorem rtag_k1 (s:ByteArray) (hm:s.size <= 1000000) (c:Nat) (b:Bool) (hp:1 < s.size) (hc:(s[0].toNat:Int) / 64 = (c:Int)) (hc3:(c:Int) <= 3) (ht:bits .and .u8 (s[0].toNat:Int) 31 = 31) (hb:(bits .and .u8 (s[0].toNat:Int) 32 != 0) = b) (hl:s[1].toNat < 128) (X:ByteArray) (c1:Mak 134 #[.agg #[.int .i64 (c:Int),.int .i64 ((s[1].toNat:Nat):Int),.bool b,.int .i64 ((0:Nat):Int)]] (.string X)) (V:Value) (hV:V = if X = s.extract 0 2 then tagV (some (c,s[1].toNat,b,2)) else tagV none):Mak 152 #[.string s] V:=by
 intro w;have hne:=some_bytes_f s (by omega);have hn0:0 < s.size:=by omega
 have hi0:(0:Int) < (s.size:Int):=by omega
 have hi1:(1:Int) < (s.size:Int):=by omega
 have hs1:((1:Int) == (s.size:Int)) = false:=by rw [beq_eq_false_iff_ne]; omega
 have hl1:=s[1].toNat_lt;have hand1:=and127_of (s[1].toNat:Int) (s[1].toNat:Int) (by omega) (by omega) (by omega);have hor1:=or_low7 0 s[1].toNat (by omega) (by omega) (by omega);simp only [Int.zero_mul,Int.zero_add] at hor1
 by_cases hq:X = s.extract 0 2
 · rw [if_pos hq] at hV;have hqb:=str_eq_t hq;subst hV;clear hq
   go_enter Tryz.func152,Tryz.ntmps152
   go_wp2_with fail;refine wp_scope_some 5 ?_;go_wp2_with fail
   go_region
   go_wp2_with fail
   go_step3
   go_wp2_with fail
   go_region
   go_wp2_with fail
   go_region_with (first | (go_at_call 134; refine c1.calls0 ?_; intro w9 h9; have q0:=h9.cell (p:=⟨w.heap.size + 1,0,none⟩) (by simp); have r0:=h9.cell (p:=⟨w.heap.size,0,none⟩) (by simp; try omega); have f0:=h9.frozen (p:=⟨w.heap.size,0,none⟩) (by simp; try omega); have q1:=h9.cell (p:=⟨w.heap.size + 1,1,none⟩) (by simp); have r1:=h9.cell (p:=⟨w.heap.size,1,none⟩) (by simp; try omega); have f1:=h9.frozen (p:=⟨w.heap.size,1,none⟩) (by simp; try omega); have q2:=h9.cell (p:=⟨w.heap.size + 1,2,none⟩) (by simp); have r2:=h9.cell (p:=⟨w.heap.size,2,none⟩) (by simp; try omega); have f2:=h9.frozen (p:=⟨w.heap.size,2,none⟩) (by simp; try omega); have q3:=h9.cell (p:=⟨w.heap.size + 1,3,none⟩) (by simp); have r3:=h9.cell (p:=⟨w.heap.size,3,none⟩) (by simp; try omega); have f3:=h9.frozen (p:=⟨w.heap.size,3,none⟩) (by simp; try omega); have H9:Hid (Since w w9):=lH (Since.step (by first | exact ((Since.refl w).alloc _).alloc _ | exact (((Since.refl w).alloc _).alloc _).drew | exact ((((Since.refl w).alloc _).alloc _).drew).drew | exact (((((Since.refl w).alloc _).alloc _).drew).drew).drew | exact ((((((Since.refl w).alloc _).alloc _).drew).drew).drew).drew | exact (((((((Since.refl w).alloc _).alloc _).drew).drew).drew).drew).drew) h9); clear h9; simp [go_sem] at q0 r0 f0 q1 r1 f1 q2 r2 f2 q3 r3 f3))
   all_goals
     go_wp2_with fail
     (try simp only [Exit.jumps])
     obtain ⟨s0,s1,s2,s3⟩:=set4 r0 r1 r2 r3 (.int .i64 (c:Int)) (.int .i64 ((s[1].toNat:Nat):Int)) (.bool b) (.int .i64 0);exact bodyPost_ret (v:=tagV (some (c,s[1].toNat,b,2))) (by simp [results,Tryz.results152,go_sem,s0,s1,s2,s3]; try rfl) rfl ⟨rfl,Below.setCell (p:=⟨w.heap.size,3,none⟩) (Below.setCell (p:=⟨w.heap.size,2,none⟩) (Below.setCell (p:=⟨w.heap.size,1,none⟩) (Below.setCell (p:=⟨w.heap.size,0,none⟩) H9.out (Nat.le_refl _) _) (Nat.le_refl _) _) (Nat.le_refl _) _) (Nat.le_refl _) _⟩
 · rw [if_neg hq] at hV;have hqb:=str_ne_f hq;subst hV;clear hq
   go_enter Tryz.func152,Tryz.ntmps152
   go_wp2_with fail;refine wp_scope_some 5 ?_;go_wp2_with fail
   go_region
   go_wp2_with fail
   go_step3
   go_wp2_with fail
   go_region
   go_wp2_with fail
   go_region_with (first | (go_at_call 134; refine c1.calls0 ?_; intro w9 h9; have q0:=h9.cell (p:=⟨w.heap.size + 1,0,none⟩) (by simp); have r0:=h9.cell (p:=⟨w.heap.size,0,none⟩) (by simp; try omega); have f0:=h9.frozen (p:=⟨w.heap.size,0,none⟩) (by simp; try omega); have q1:=h9.cell (p:=⟨w.heap.size + 1,1,none⟩) (by simp); have r1:=h9.cell (p:=⟨w.heap.size,1,none⟩) (by simp; try omega); have f1:=h9.frozen (p:=⟨w.heap.size,1,none⟩) (by simp; try omega); have q2:=h9.cell (p:=⟨w.heap.size + 1,2,none⟩) (by simp); have r2:=h9.cell (p:=⟨w.heap.size,2,none⟩) (by simp; try omega); have f2:=h9.frozen (p:=⟨w.heap.size,2,none⟩) (by simp; try omega); have q3:=h9.cell (p:=⟨w.heap.size + 1,3,none⟩) (by simp); have r3:=h9.cell (p:=⟨w.heap.size,3,none⟩) (by simp; try omega); have f3:=h9.frozen (p:=⟨w.heap.size,3,none⟩) (by simp; try omega); have H9:Hid (Since w w9):=lH (Since.step (by first | exact ((Since.refl w).alloc _).alloc _ | exact (((Since.refl w).alloc _).alloc _).drew | exact ((((Since.refl w).alloc _).alloc _).drew).drew | exact (((((Since.refl w).alloc _).alloc _).drew).drew).drew | exact ((((((Since.refl w).alloc _).alloc _).drew).drew).drew).drew | exact (((((((Since.refl w).alloc _).alloc _).drew).drew).drew).drew).drew) h9); clear h9; simp [go_sem] at q0 r0 f0 q1 r1 f1 q2 r2 f2 q3 r3 f3))
   all_goals
     go_wp2_with fail
     go_step3
     go_wp2_with fail
     (try simp only [Exit.jumps])
     obtain ⟨s0,s1,s2,s3⟩:=set4 r0 r1 r2 r3 (.int .i64 0) (.int .i64 0) (.bool false) (.int .i64 0);exact bodyPost_ret (v:=tagV none) (by simp [results,Tryz.results152,go_sem,s0,s1,s2,s3]; try rfl) rfl ⟨rfl,by first | exact H9.out | exact Below.setCell (p:=⟨w.heap.size,3,none⟩) (Below.setCell (p:=⟨w.heap.size,2,none⟩) (Below.setCell (p:=⟨w.heap.size,1,none⟩) (Below.setCell (p:=⟨w.heap.size,0,none⟩) H9.out (Nat.le_refl _) _) (Nat.le_refl _) _) (Nat.le_refl _) _) (Nat.le_refl _) _⟩
end Head
namespace Head
set_option maxHeartbeats 8000000 in
theorem rtag_k2 (s:ByteArray) (hm:s.size <= 1000000) (c:Nat) (b:Bool) (hp:2 < s.size) (hc:(s[0].toNat:Int) / 64 = (c:Int)) (hc3:(c:Int) <= 3) (ht:bits .and .u8 (s[0].toNat:Int) 31 = 31) (hb:(bits .and .u8 (s[0].toNat:Int) 32 != 0) = b) (e1:Nat) (he1:s[1].toNat = 128 + e1) (hl:s[2].toNat < 128) (T:Nat) (hT:T = 128 * e1 + s[2].toNat) (X:ByteArray) (c1:Mak 134 #[.agg #[.int .i64 (c:Int),.int .i64 ((T:Nat):Int),.bool b,.int .i64 ((0:Nat):Int)]] (.string X)) (V:Value) (hV:V = if X = s.extract 0 3 then tagV (some (c,T,b,3)) else tagV none):Mak 152 #[.string s] V:=by
 intro w;have hne:=some_bytes_f s (by omega);have hn0:0 < s.size:=by omega
 have hi0:(0:Int) < (s.size:Int):=by omega
 have hi1:(1:Int) < (s.size:Int):=by omega
 have hi2:(2:Int) < (s.size:Int):=by omega
 have hs1:((1:Int) == (s.size:Int)) = false:=by rw [beq_eq_false_iff_ne]; omega
 have hs2:((2:Int) == (s.size:Int)) = false:=by rw [beq_eq_false_iff_ne]; omega
 have hl1:=s[1].toNat_lt;have hand1:=and127_of (s[1].toNat:Int) (e1:Int) (by omega) (by omega) (by omega);have hge1:128 <= s[1].toNat:=by omega
 have hl2:=s[2].toNat_lt;have hand2:=and127_of (s[2].toNat:Int) (s[2].toNat:Int) (by omega) (by omega) (by omega);have hor1:=or_low7 0 e1 (by omega) (by omega) (by omega);simp only [Int.zero_mul,Int.zero_add] at hor1;have hor2:=or_low7 (e1:Int) s[2].toNat (by omega) (by omega) (by omega);rw [show (e1:Int) * (128:Int) + (s[2].toNat:Int) = (T:Int) from by omega] at hor2;have hTb:T <= 2097151:=by omega
 have heb1:e1 <= 127:=by omega
 clear he1;clear hT
 by_cases hq:X = s.extract 0 3
 · rw [if_pos hq] at hV;have hqb:=str_eq_t hq;subst hV;clear hq
   go_enter Tryz.func152,Tryz.ntmps152
   go_wp2_with fail;refine wp_scope_some 5 ?_;go_wp2_with fail
   go_region
   go_wp2_with fail
   go_step3
   go_wp2_with fail
   go_region
   go_wp2_with fail
   go_step3
   refine ⟨_,rfl, ?_⟩;go_wp2_with fail
   go_region
   go_wp2_with fail
   go_region_with (first | (go_at_call 134; refine c1.calls0 ?_; intro w9 h9; have q0:=h9.cell (p:=⟨w.heap.size + 1,0,none⟩) (by simp); have r0:=h9.cell (p:=⟨w.heap.size,0,none⟩) (by simp; try omega); have f0:=h9.frozen (p:=⟨w.heap.size,0,none⟩) (by simp; try omega); have q1:=h9.cell (p:=⟨w.heap.size + 1,1,none⟩) (by simp); have r1:=h9.cell (p:=⟨w.heap.size,1,none⟩) (by simp; try omega); have f1:=h9.frozen (p:=⟨w.heap.size,1,none⟩) (by simp; try omega); have q2:=h9.cell (p:=⟨w.heap.size + 1,2,none⟩) (by simp); have r2:=h9.cell (p:=⟨w.heap.size,2,none⟩) (by simp; try omega); have f2:=h9.frozen (p:=⟨w.heap.size,2,none⟩) (by simp; try omega); have q3:=h9.cell (p:=⟨w.heap.size + 1,3,none⟩) (by simp); have r3:=h9.cell (p:=⟨w.heap.size,3,none⟩) (by simp; try omega); have f3:=h9.frozen (p:=⟨w.heap.size,3,none⟩) (by simp; try omega); have H9:Hid (Since w w9):=lH (Since.step (by first | exact ((Since.refl w).alloc _).alloc _ | exact (((Since.refl w).alloc _).alloc _).drew | exact ((((Since.refl w).alloc _).alloc _).drew).drew | exact (((((Since.refl w).alloc _).alloc _).drew).drew).drew | exact ((((((Since.refl w).alloc _).alloc _).drew).drew).drew).drew | exact (((((((Since.refl w).alloc _).alloc _).drew).drew).drew).drew).drew) h9); clear h9; simp [go_sem] at q0 r0 f0 q1 r1 f1 q2 r2 f2 q3 r3 f3))
   all_goals
     go_wp2_with fail
     (try simp only [Exit.jumps])
     obtain ⟨s0,s1,s2,s3⟩:=set4 r0 r1 r2 r3 (.int .i64 (c:Int)) (.int .i64 ((T:Nat):Int)) (.bool b) (.int .i64 0);exact bodyPost_ret (v:=tagV (some (c,T,b,3))) (by simp [results,Tryz.results152,go_sem,s0,s1,s2,s3]; try rfl) rfl ⟨rfl,Below.setCell (p:=⟨w.heap.size,3,none⟩) (Below.setCell (p:=⟨w.heap.size,2,none⟩) (Below.setCell (p:=⟨w.heap.size,1,none⟩) (Below.setCell (p:=⟨w.heap.size,0,none⟩) H9.out (Nat.le_refl _) _) (Nat.le_refl _) _) (Nat.le_refl _) _) (Nat.le_refl _) _⟩
 · rw [if_neg hq] at hV;have hqb:=str_ne_f hq;subst hV;clear hq
   go_enter Tryz.func152,Tryz.ntmps152
   go_wp2_with fail;refine wp_scope_some 5 ?_;go_wp2_with fail
   go_region
   go_wp2_with fail
   go_step3
   go_wp2_with fail
   go_region
   go_wp2_with fail
   go_step3
   refine ⟨_,rfl, ?_⟩;go_wp2_with fail
   go_region
   go_wp2_with fail
   go_region_with (first | (go_at_call 134; refine c1.calls0 ?_; intro w9 h9; have q0:=h9.cell (p:=⟨w.heap.size + 1,0,none⟩) (by simp); have r0:=h9.cell (p:=⟨w.heap.size,0,none⟩) (by simp; try omega); have f0:=h9.frozen (p:=⟨w.heap.size,0,none⟩) (by simp; try omega); have q1:=h9.cell (p:=⟨w.heap.size + 1,1,none⟩) (by simp); have r1:=h9.cell (p:=⟨w.heap.size,1,none⟩) (by simp; try omega); have f1:=h9.frozen (p:=⟨w.heap.size,1,none⟩) (by simp; try omega); have q2:=h9.cell (p:=⟨w.heap.size + 1,2,none⟩) (by simp); have r2:=h9.cell (p:=⟨w.heap.size,2,none⟩) (by simp; try omega); have f2:=h9.frozen (p:=⟨w.heap.size,2,none⟩) (by simp; try omega); have q3:=h9.cell (p:=⟨w.heap.size + 1,3,none⟩) (by simp); have r3:=h9.cell (p:=⟨w.heap.size,3,none⟩) (by simp; try omega); have f3:=h9.frozen (p:=⟨w.heap.size,3,none⟩) (by simp; try omega); have H9:Hid (Since w w9):=lH (Since.step (by first | exact ((Since.refl w).alloc _).alloc _ | exact (((Since.refl w).alloc _).alloc _).drew | exact ((((Since.refl w).alloc _).alloc _).drew).drew | exact (((((Since.refl w).alloc _).alloc _).drew).drew).drew | exact ((((((Since.refl w).alloc _).alloc _).drew).drew).drew).drew | exact (((((((Since.refl w).alloc _).alloc _).drew).drew).drew).drew).drew) h9); clear h9; simp [go_sem] at q0 r0 f0 q1 r1 f1 q2 r2 f2 q3 r3 f3))
   all_goals
     go_wp2_with fail
     go_step3
     go_wp2_with fail
     (try simp only [Exit.jumps])
     obtain ⟨s0,s1,s2,s3⟩:=set4 r0 r1 r2 r3 (.int .i64 0) (.int .i64 0) (.bool false) (.int .i64 0);exact bodyPost_ret (v:=tagV none) (by simp [results,Tryz.results152,go_sem,s0,s1,s2,s3]; try rfl) rfl ⟨rfl,by first | exact H9.out | exact Below.setCell (p:=⟨w.heap.size,3,none⟩) (Below.setCell (p:=⟨w.heap.size,2,none⟩) (Below.setCell (p:=⟨w.heap.size,1,none⟩) (Below.setCell (p:=⟨w.heap.size,0,none⟩) H9.out (Nat.le_refl _) _) (Nat.le_refl _) _) (Nat.le_refl _) _) (Nat.le_refl _) _⟩
end Head
namespace Head
set_option maxHeartbeats 8000000 in
theorem rtag_k3 (s:ByteArray) (hm:s.size <= 1000000) (c:Nat) (b:Bool) (hp:3 < s.size) (hc:(s[0].toNat:Int) / 64 = (c:Int)) (hc3:(c:Int) <= 3) (ht:bits .and .u8 (s[0].toNat:Int) 31 = 31) (hb:(bits .and .u8 (s[0].toNat:Int) 32 != 0) = b) (e1:Nat) (he1:s[1].toNat = 128 + e1) (e2:Nat) (he2:s[2].toNat = 128 + e2) (hl:s[3].toNat < 128) (T2:Nat) (hT2:T2 = 128 * e1 + e2) (T:Nat) (hT:T = 128 * T2 + s[3].toNat) (X:ByteArray) (c1:Mak 134 #[.agg #[.int .i64 (c:Int),.int .i64 ((T:Nat):Int),.bool b,.int .i64 ((0:Nat):Int)]] (.string X)) (V:Value) (hV:V = if X = s.extract 0 4 then tagV (some (c,T,b,4)) else tagV none):Mak 152 #[.string s] V:=by
 intro w;have hne:=some_bytes_f s (by omega);have hn0:0 < s.size:=by omega
 have hi0:(0:Int) < (s.size:Int):=by omega
 have hi1:(1:Int) < (s.size:Int):=by omega
 have hi2:(2:Int) < (s.size:Int):=by omega
 have hi3:(3:Int) < (s.size:Int):=by omega
 have hs1:((1:Int) == (s.size:Int)) = false:=by rw [beq_eq_false_iff_ne]; omega
 have hs2:((2:Int) == (s.size:Int)) = false:=by rw [beq_eq_false_iff_ne]; omega
 have hs3:((3:Int) == (s.size:Int)) = false:=by rw [beq_eq_false_iff_ne]; omega
 have hl1:=s[1].toNat_lt;have hand1:=and127_of (s[1].toNat:Int) (e1:Int) (by omega) (by omega) (by omega);have hge1:128 <= s[1].toNat:=by omega
 have hl2:=s[2].toNat_lt;have hand2:=and127_of (s[2].toNat:Int) (e2:Int) (by omega) (by omega) (by omega);have hge2:128 <= s[2].toNat:=by omega
 have hl3:=s[3].toNat_lt;have hand3:=and127_of (s[3].toNat:Int) (s[3].toNat:Int) (by omega) (by omega) (by omega);have hor1:=or_low7 0 e1 (by omega) (by omega) (by omega);simp only [Int.zero_mul,Int.zero_add] at hor1;have hor2:=or_low7 (e1:Int) e2 (by omega) (by omega) (by omega);rw [show (e1:Int) * (128:Int) + (e2:Int) = (T2:Int) from by omega] at hor2;have hor3:=or_low7 (T2:Int) s[3].toNat (by omega) (by omega) (by omega);rw [show (T2:Int) * (128:Int) + (s[3].toNat:Int) = (T:Int) from by omega] at hor3;have hTb:T <= 2097151:=by omega
 have hT2b:T2 <= 16383:=by omega
 have heb1:e1 <= 127:=by omega
 clear he1;have heb2:e2 <= 127:=by omega
 clear he2;clear hT2;clear hT
 by_cases hq:X = s.extract 0 4
 · rw [if_pos hq] at hV;have hqb:=str_eq_t hq;subst hV;clear hq
   go_enter Tryz.func152,Tryz.ntmps152
   go_wp2_with fail;refine wp_scope_some 5 ?_;go_wp2_with fail
   go_region
   go_wp2_with fail
   go_step3
   go_wp2_with fail
   go_region
   go_wp2_with fail
   go_step3
   refine ⟨_,rfl, ?_⟩;go_wp2_with fail
   go_region
   go_wp2_with fail
   go_step3
   refine ⟨_,rfl, ?_⟩;go_wp2_with fail
   go_region
   go_wp2_with fail
   go_region_with (first | (go_at_call 134; refine c1.calls0 ?_; intro w9 h9; have q0:=h9.cell (p:=⟨w.heap.size + 1,0,none⟩) (by simp); have r0:=h9.cell (p:=⟨w.heap.size,0,none⟩) (by simp; try omega); have f0:=h9.frozen (p:=⟨w.heap.size,0,none⟩) (by simp; try omega); have q1:=h9.cell (p:=⟨w.heap.size + 1,1,none⟩) (by simp); have r1:=h9.cell (p:=⟨w.heap.size,1,none⟩) (by simp; try omega); have f1:=h9.frozen (p:=⟨w.heap.size,1,none⟩) (by simp; try omega); have q2:=h9.cell (p:=⟨w.heap.size + 1,2,none⟩) (by simp); have r2:=h9.cell (p:=⟨w.heap.size,2,none⟩) (by simp; try omega); have f2:=h9.frozen (p:=⟨w.heap.size,2,none⟩) (by simp; try omega); have q3:=h9.cell (p:=⟨w.heap.size + 1,3,none⟩) (by simp); have r3:=h9.cell (p:=⟨w.heap.size,3,none⟩) (by simp; try omega); have f3:=h9.frozen (p:=⟨w.heap.size,3,none⟩) (by simp; try omega); have H9:Hid (Since w w9):=lH (Since.step (by first | exact ((Since.refl w).alloc _).alloc _ | exact (((Since.refl w).alloc _).alloc _).drew | exact ((((Since.refl w).alloc _).alloc _).drew).drew | exact (((((Since.refl w).alloc _).alloc _).drew).drew).drew | exact ((((((Since.refl w).alloc _).alloc _).drew).drew).drew).drew | exact (((((((Since.refl w).alloc _).alloc _).drew).drew).drew).drew).drew) h9); clear h9; simp [go_sem] at q0 r0 f0 q1 r1 f1 q2 r2 f2 q3 r3 f3))
   all_goals
     go_wp2_with fail
     (try simp only [Exit.jumps])
     obtain ⟨s0,s1,s2,s3⟩:=set4 r0 r1 r2 r3 (.int .i64 (c:Int)) (.int .i64 ((T:Nat):Int)) (.bool b) (.int .i64 0);exact bodyPost_ret (v:=tagV (some (c,T,b,4))) (by simp [results,Tryz.results152,go_sem,s0,s1,s2,s3]; try rfl) rfl ⟨rfl,Below.setCell (p:=⟨w.heap.size,3,none⟩) (Below.setCell (p:=⟨w.heap.size,2,none⟩) (Below.setCell (p:=⟨w.heap.size,1,none⟩) (Below.setCell (p:=⟨w.heap.size,0,none⟩) H9.out (Nat.le_refl _) _) (Nat.le_refl _) _) (Nat.le_refl _) _) (Nat.le_refl _) _⟩
 · rw [if_neg hq] at hV;have hqb:=str_ne_f hq;subst hV;clear hq
   go_enter Tryz.func152,Tryz.ntmps152
   go_wp2_with fail;refine wp_scope_some 5 ?_;go_wp2_with fail
   go_region
   go_wp2_with fail
   go_step3
   go_wp2_with fail
   go_region
   go_wp2_with fail
   go_step3
   refine ⟨_,rfl, ?_⟩;go_wp2_with fail
   go_region
   go_wp2_with fail
   go_step3
   refine ⟨_,rfl, ?_⟩;go_wp2_with fail
   go_region
   go_wp2_with fail
   go_region_with (first | (go_at_call 134; refine c1.calls0 ?_; intro w9 h9; have q0:=h9.cell (p:=⟨w.heap.size + 1,0,none⟩) (by simp); have r0:=h9.cell (p:=⟨w.heap.size,0,none⟩) (by simp; try omega); have f0:=h9.frozen (p:=⟨w.heap.size,0,none⟩) (by simp; try omega); have q1:=h9.cell (p:=⟨w.heap.size + 1,1,none⟩) (by simp); have r1:=h9.cell (p:=⟨w.heap.size,1,none⟩) (by simp; try omega); have f1:=h9.frozen (p:=⟨w.heap.size,1,none⟩) (by simp; try omega); have q2:=h9.cell (p:=⟨w.heap.size + 1,2,none⟩) (by simp); have r2:=h9.cell (p:=⟨w.heap.size,2,none⟩) (by simp; try omega); have f2:=h9.frozen (p:=⟨w.heap.size,2,none⟩) (by simp; try omega); have q3:=h9.cell (p:=⟨w.heap.size + 1,3,none⟩) (by simp); have r3:=h9.cell (p:=⟨w.heap.size,3,none⟩) (by simp; try omega); have f3:=h9.frozen (p:=⟨w.heap.size,3,none⟩) (by simp; try omega); have H9:Hid (Since w w9):=lH (Since.step (by first | exact ((Since.refl w).alloc _).alloc _ | exact (((Since.refl w).alloc _).alloc _).drew | exact ((((Since.refl w).alloc _).alloc _).drew).drew | exact (((((Since.refl w).alloc _).alloc _).drew).drew).drew | exact ((((((Since.refl w).alloc _).alloc _).drew).drew).drew).drew | exact (((((((Since.refl w).alloc _).alloc _).drew).drew).drew).drew).drew) h9); clear h9; simp [go_sem] at q0 r0 f0 q1 r1 f1 q2 r2 f2 q3 r3 f3))
   all_goals
     go_wp2_with fail
     go_step3
     go_wp2_with fail
     (try simp only [Exit.jumps])
     obtain ⟨s0,s1,s2,s3⟩:=set4 r0 r1 r2 r3 (.int .i64 0) (.int .i64 0) (.bool false) (.int .i64 0);exact bodyPost_ret (v:=tagV none) (by simp [results,Tryz.results152,go_sem,s0,s1,s2,s3]; try rfl) rfl ⟨rfl,by first | exact H9.out | exact Below.setCell (p:=⟨w.heap.size,3,none⟩) (Below.setCell (p:=⟨w.heap.size,2,none⟩) (Below.setCell (p:=⟨w.heap.size,1,none⟩) (Below.setCell (p:=⟨w.heap.size,0,none⟩) H9.out (Nat.le_refl _) _) (Nat.le_refl _) _) (Nat.le_refl _) _) (Nat.le_refl _) _⟩
end Head
namespace Head
set_option maxHeartbeats 8000000 in
theorem rtag_f0 (s:ByteArray) (_hm:s.size <= 1000000) (c:Nat) (b:Bool) (hp:s.size = 1) (hp0:0 < s.size) (hc:(s[0].toNat:Int) / 64 = (c:Int)) (hc3:(c:Int) <= 3) (ht:bits .and .u8 (s[0].toNat:Int) 31 = 31) (hb:(bits .and .u8 (s[0].toNat:Int) 32 != 0) = b):Mak 152 #[.string s] (tagV none):=by
 intro w;have hne:=some_bytes_f s (by omega);have hn0:0 < s.size:=by omega
 have hi0:(0:Int) < (s.size:Int):=by omega
 have hse:((1:Int) == (s.size:Int)) = true:=by rw [hp]; rfl
 go_enter Tryz.func152,Tryz.ntmps152
 go_wp2_with fail;refine wp_scope_some 5 ?_;go_wp2_with fail
 go_region
 go_wp2_with fail
 go_step3
 go_wp2_with fail
 go_step3
 refine ⟨_,rfl, ?_⟩;go_wp2_with fail
 (try simp only [Exit.jumps])
 exact bodyPost_ret (v:=tagV none) (by simp [results,Tryz.results152,go_sem]; try rfl) rfl ⟨rfl,by first | exact ((Since.refl w).alloc _).alloc _ | exact (((Since.refl w).alloc _).alloc _).drew | exact ((((Since.refl w).alloc _).alloc _).drew).drew | exact (((((Since.refl w).alloc _).alloc _).drew).drew).drew | exact ((((((Since.refl w).alloc _).alloc _).drew).drew).drew).drew | exact (((((((Since.refl w).alloc _).alloc _).drew).drew).drew).drew).drew | exact H9.out⟩
set_option maxHeartbeats 8000000 in
theorem rtag_f1 (s:ByteArray) (_hm:s.size <= 1000000) (c:Nat) (b:Bool) (hp:s.size = 2) (hp0:1 < s.size) (hc:(s[0].toNat:Int) / 64 = (c:Int)) (hc3:(c:Int) <= 3) (ht:bits .and .u8 (s[0].toNat:Int) 31 = 31) (hb:(bits .and .u8 (s[0].toNat:Int) 32 != 0) = b) (e1:Nat) (he1:s[1].toNat = 128 + e1):Mak 152 #[.string s] (tagV none):=by
 intro w;have hne:=some_bytes_f s (by omega);have hn0:0 < s.size:=by omega
 have hi0:(0:Int) < (s.size:Int):=by omega
 have hi1:(1:Int) < (s.size:Int):=by omega
 have hs1:((1:Int) == (s.size:Int)) = false:=by rw [beq_eq_false_iff_ne]; omega
 have hse:((2:Int) == (s.size:Int)) = true:=by rw [hp]; rfl
 have hl1:=s[1].toNat_lt;have hand1:=and127_of (s[1].toNat:Int) (e1:Int) (by omega) (by omega) (by omega);have hge1:128 <= s[1].toNat:=by omega
 have hor1:=or_low7 0 e1 (by omega) (by omega) (by omega);simp only [Int.zero_mul,Int.zero_add] at hor1;have heb1:e1 <= 127:=by omega
 clear he1
 go_enter Tryz.func152,Tryz.ntmps152
 go_wp2_with fail;refine wp_scope_some 5 ?_;go_wp2_with fail
 go_region
 go_wp2_with fail
 go_step3
 go_wp2_with fail
 go_region
 go_wp2_with fail
 go_step3
 refine ⟨_,rfl, ?_⟩;go_wp2_with fail
 go_step3
 refine ⟨_,rfl, ?_⟩;go_wp2_with fail
 (try simp only [Exit.jumps])
 exact bodyPost_ret (v:=tagV none) (by simp [results,Tryz.results152,go_sem]; try rfl) rfl ⟨rfl,by first | exact ((Since.refl w).alloc _).alloc _ | exact (((Since.refl w).alloc _).alloc _).drew | exact ((((Since.refl w).alloc _).alloc _).drew).drew | exact (((((Since.refl w).alloc _).alloc _).drew).drew).drew | exact ((((((Since.refl w).alloc _).alloc _).drew).drew).drew).drew | exact (((((((Since.refl w).alloc _).alloc _).drew).drew).drew).drew).drew | exact H9.out⟩
set_option maxHeartbeats 8000000 in
theorem rtag_f2 (s:ByteArray) (_hm:s.size <= 1000000) (c:Nat) (b:Bool) (hp:s.size = 3) (hp0:2 < s.size) (hc:(s[0].toNat:Int) / 64 = (c:Int)) (hc3:(c:Int) <= 3) (ht:bits .and .u8 (s[0].toNat:Int) 31 = 31) (hb:(bits .and .u8 (s[0].toNat:Int) 32 != 0) = b) (e1:Nat) (he1:s[1].toNat = 128 + e1) (e2:Nat) (he2:s[2].toNat = 128 + e2) (T2:Nat) (hT2:T2 = 128 * e1 + e2):Mak 152 #[.string s] (tagV none):=by
 intro w;have hne:=some_bytes_f s (by omega);have hn0:0 < s.size:=by omega
 have hi0:(0:Int) < (s.size:Int):=by omega
 have hi1:(1:Int) < (s.size:Int):=by omega
 have hi2:(2:Int) < (s.size:Int):=by omega
 have hs1:((1:Int) == (s.size:Int)) = false:=by rw [beq_eq_false_iff_ne]; omega
 have hs2:((2:Int) == (s.size:Int)) = false:=by rw [beq_eq_false_iff_ne]; omega
 have hse:((3:Int) == (s.size:Int)) = true:=by rw [hp]; rfl
 have hl1:=s[1].toNat_lt;have hand1:=and127_of (s[1].toNat:Int) (e1:Int) (by omega) (by omega) (by omega);have hge1:128 <= s[1].toNat:=by omega
 have hl2:=s[2].toNat_lt;have hand2:=and127_of (s[2].toNat:Int) (e2:Int) (by omega) (by omega) (by omega);have hge2:128 <= s[2].toNat:=by omega
 have hor1:=or_low7 0 e1 (by omega) (by omega) (by omega);simp only [Int.zero_mul,Int.zero_add] at hor1;have hor2:=or_low7 (e1:Int) e2 (by omega) (by omega) (by omega);rw [show (e1:Int) * (128:Int) + (e2:Int) = (T2:Int) from by omega] at hor2;have heb1:e1 <= 127:=by omega
 have heb2:e2 <= 127:=by omega
 have hT2b:T2 <= 16383:=by omega
 clear he1;clear he2;clear hT2
 go_enter Tryz.func152,Tryz.ntmps152
 go_wp2_with fail;refine wp_scope_some 5 ?_;go_wp2_with fail
 go_region
 go_wp2_with fail
 go_step3
 go_wp2_with fail
 go_region
 go_wp2_with fail
 go_step3
 refine ⟨_,rfl, ?_⟩;go_wp2_with fail
 go_region
 go_wp2_with fail
 go_step3
 refine ⟨_,rfl, ?_⟩;go_wp2_with fail
 go_step3
 refine ⟨_,rfl, ?_⟩;go_wp2_with fail
 (try simp only [Exit.jumps])
 exact bodyPost_ret (v:=tagV none) (by simp [results,Tryz.results152,go_sem]; try rfl) rfl ⟨rfl,by first | exact ((Since.refl w).alloc _).alloc _ | exact (((Since.refl w).alloc _).alloc _).drew | exact ((((Since.refl w).alloc _).alloc _).drew).drew | exact (((((Since.refl w).alloc _).alloc _).drew).drew).drew | exact ((((((Since.refl w).alloc _).alloc _).drew).drew).drew).drew | exact (((((((Since.refl w).alloc _).alloc _).drew).drew).drew).drew).drew | exact H9.out⟩
end Head
namespace Head
set_option maxHeartbeats 8000000 in
theorem rtag_f3 (s:ByteArray) (hm:s.size <= 1000000) (c:Nat) (b:Bool) (hp:3 < s.size) (hc:(s[0].toNat:Int) / 64 = (c:Int)) (hc3:(c:Int) <= 3) (ht:bits .and .u8 (s[0].toNat:Int) 31 = 31) (hb:(bits .and .u8 (s[0].toNat:Int) 32 != 0) = b) (e1:Nat) (he1:s[1].toNat = 128 + e1) (e2:Nat) (he2:s[2].toNat = 128 + e2) (e3:Nat) (he3:s[3].toNat = 128 + e3) (T2:Nat) (hT2:T2 = 128 * e1 + e2) (T3:Nat) (hT3:T3 = 128 * T2 + e3):Mak 152 #[.string s] (tagV none):=by
 intro w;have hne:=some_bytes_f s (by omega);have hn0:0 < s.size:=by omega
 have hi0:(0:Int) < (s.size:Int):=by omega
 have hi1:(1:Int) < (s.size:Int):=by omega
 have hi2:(2:Int) < (s.size:Int):=by omega
 have hi3:(3:Int) < (s.size:Int):=by omega
 have hs1:((1:Int) == (s.size:Int)) = false:=by rw [beq_eq_false_iff_ne]; omega
 have hs2:((2:Int) == (s.size:Int)) = false:=by rw [beq_eq_false_iff_ne]; omega
 have hs3:((3:Int) == (s.size:Int)) = false:=by rw [beq_eq_false_iff_ne]; omega
 have hl1:=s[1].toNat_lt;have hand1:=and127_of (s[1].toNat:Int) (e1:Int) (by omega) (by omega) (by omega);have hge1:128 <= s[1].toNat:=by omega
 have hl2:=s[2].toNat_lt;have hand2:=and127_of (s[2].toNat:Int) (e2:Int) (by omega) (by omega) (by omega);have hge2:128 <= s[2].toNat:=by omega
 have hl3:=s[3].toNat_lt;have hand3:=and127_of (s[3].toNat:Int) (e3:Int) (by omega) (by omega) (by omega);have hge3:128 <= s[3].toNat:=by omega
 have hor1:=or_low7 0 e1 (by omega) (by omega) (by omega);simp only [Int.zero_mul,Int.zero_add] at hor1;have hor2:=or_low7 (e1:Int) e2 (by omega) (by omega) (by omega);rw [show (e1:Int) * (128:Int) + (e2:Int) = (T2:Int) from by omega] at hor2;have hor3:=or_low7 (T2:Int) e3 (by omega) (by omega) (by omega);rw [show (T2:Int) * (128:Int) + (e3:Int) = (T3:Int) from by omega] at hor3;have heb1:e1 <= 127:=by omega
 have heb2:e2 <= 127:=by omega
 have heb3:e3 <= 127:=by omega
 have hT2b:T2 <= 16383:=by omega
 have hT3b:T3 <= 2097151:=by omega
 clear he1;clear he2;clear he3;clear hT2;clear hT3
 by_cases h4:s.size = 4
 · have hse:((4:Int) == (s.size:Int)) = true:=by rw [h4]; rfl
   clear h4
   go_enter Tryz.func152,Tryz.ntmps152
   go_wp2_with fail;refine wp_scope_some 5 ?_;go_wp2_with fail
   go_region
   go_wp2_with fail
   go_step3
   go_wp2_with fail
   go_region
   go_wp2_with fail
   go_step3
   refine ⟨_,rfl, ?_⟩;go_wp2_with fail
   go_region
   go_wp2_with fail
   go_step3
   refine ⟨_,rfl, ?_⟩;go_wp2_with fail
   go_region
   go_wp2_with fail
   go_step3
   refine ⟨_,rfl, ?_⟩;go_wp2_with fail
   go_step3
   refine ⟨_,rfl, ?_⟩;go_wp2_with fail
   (try simp only [Exit.jumps])
   exact bodyPost_ret (v:=tagV none) (by simp [results,Tryz.results152,go_sem]; try rfl) rfl ⟨rfl,by first | exact ((Since.refl w).alloc _).alloc _ | exact (((Since.refl w).alloc _).alloc _).drew | exact ((((Since.refl w).alloc _).alloc _).drew).drew | exact (((((Since.refl w).alloc _).alloc _).drew).drew).drew | exact ((((((Since.refl w).alloc _).alloc _).drew).drew).drew).drew | exact (((((((Since.refl w).alloc _).alloc _).drew).drew).drew).drew).drew | exact H9.out⟩
 · have hse:((4:Int) == (s.size:Int)) = false:=by rw [beq_eq_false_iff_ne]; omega
   clear h4
   go_enter Tryz.func152,Tryz.ntmps152
   go_wp2_with fail;refine wp_scope_some 5 ?_;go_wp2_with fail
   go_region
   go_wp2_with fail
   go_step3
   go_wp2_with fail
   go_region
   go_wp2_with fail
   go_step3
   refine ⟨_,rfl, ?_⟩;go_wp2_with fail
   go_region
   go_wp2_with fail
   go_step3
   refine ⟨_,rfl, ?_⟩;go_wp2_with fail
   go_region
   go_wp2_with fail
   go_step3
   refine ⟨_,rfl, ?_⟩;go_wp2_with fail
   go_step3
   refine ⟨_,rfl, ?_⟩;go_wp2_with fail
   (try simp only [Exit.jumps])
   exact bodyPost_ret (v:=tagV none) (by simp [results,Tryz.results152,go_sem]; try rfl) rfl ⟨rfl,by first | exact ((Since.refl w).alloc _).alloc _ | exact (((Since.refl w).alloc _).alloc _).drew | exact ((((Since.refl w).alloc _).alloc _).drew).drew | exact (((((Since.refl w).alloc _).alloc _).drew).drew).drew | exact ((((((Since.refl w).alloc _).alloc _).drew).drew).drew).drew | exact (((((((Since.refl w).alloc _).alloc _).drew).drew).drew).drew).drew | exact H9.out⟩
end Head
namespace Head
theorem chk_if (s:ByteArray) (c t:Nat) (b:Bool) (k:Nat) (V:Value) (hV:V = chkT c b s.data.toList (some (t,k))):V = if bs (tagL c t b) = s.extract 0 (k + 1) then tagV (some (c,t,b,k + 1)) else tagV none:=by
 rw [hV]
 show (if _ then _ else _) = _
 by_cases h:bs (tagL c t b) = s.extract 0 (k + 1)
 · rw [if_pos h,if_pos (by have h2:=congrArg (fun x => x.data.toList) h; simpa [list_bs,ext_list] using h2)]
 · rw [if_neg h,if_neg (fun h2 => h (ba_ext (by rw [list_bs,ext_list,h2]; rfl)))]
set_option maxHeartbeats 1000000 in
theorem rtag_long (s:ByteArray) (hp:0 < s.size) (hm:s.size <= 1000000) (c:Nat) (b:Bool) (hc:(s[0].toNat:Int) / 64 = (c:Int)) (hc3:(c:Int) <= 3) (ht:bits .and .u8 (s[0].toNat:Int) 31 = 31) (hb:(bits .and .u8 (s[0].toNat:Int) 32 != 0) = b) (V:Value) (hV:V = chkT c b s.data.toList (digR (s.data.toList.drop 1))):Mak 152 #[.string s] V:=by
 by_cases l1:s.size <= 1
 · rw [show s.data.toList.drop 1 = [] from List.drop_eq_nil_of_le l1] at hV;rw [hV];exact rtag_f0 s hm c b (by omega) (by omega) hc hc3 ht hb
 · have hp1:1 < s.size:=by omega
   rw [drop_cons s 1 hp1] at hV;have hl1:=s[1].toNat_lt
   by_cases d1:s[1].toNat < 128
   · rw [digR_1 _ _ d1] at hV;exact rtag_k1 s hm c b hp1 hc hc3 ht hb d1 _ (tag_mak c _ 0 b (by omega) (by omega) _ rfl) V (chk_if s c _ b 1 V hV)
   · have he1:s[1].toNat = 128 + (s[1].toNat - 128):=by omega
     by_cases l2:s.size <= 2
     · rw [show s.data.toList.drop (1 + 1) = [] from List.drop_eq_nil_of_le l2,digR_1n _ d1] at hV;rw [hV];exact rtag_f1 s hm c b (by omega) hp1 hc hc3 ht hb _ he1
     · have hp2:2 < s.size:=by omega
       rw [drop_cons s (1 + 1) hp2] at hV;have hl2:=s[2].toNat_lt
       by_cases d2:s[2].toNat < 128
       · rw [digR_2 _ _ _ d1 d2] at hV;exact rtag_k2 s hm c b hp2 hc hc3 ht hb _ he1 d2 _ rfl _ (tag_mak c _ 0 b (by omega) (by omega) _ rfl) V (chk_if s c _ b 2 V hV)
       · have he2:s[2].toNat = 128 + (s[2].toNat - 128):=by omega
         by_cases l3:s.size <= 3
         · rw [show s.data.toList.drop (1 + 1 + 1) = [] from List.drop_eq_nil_of_le l3,digR_2n _ _ d1 d2] at hV;rw [hV];exact rtag_f2 s hm c b (by omega) hp2 hc hc3 ht hb _ he1 _ he2 _ rfl
         · have hp3:3 < s.size:=by omega
           rw [drop_cons s (1 + 1 + 1) hp3] at hV;have hl3:=s[3].toNat_lt
           by_cases d3:s[3].toNat < 128
           · rw [digR_3 _ _ _ _ d1 d2 d3] at hV;exact rtag_k3 s hm c b hp3 hc hc3 ht hb _ he1 _ he2 d3 _ rfl _ rfl _ (tag_mak c _ 0 b (by omega) (by omega) _ rfl) V (chk_if s c _ b 3 V hV)
           · rw [digR_3n _ _ _ _ d1 d2 d3] at hV;rw [hV];exact rtag_f3 s hm c b hp3 hc hc3 ht hb _ he1 _ he2 (s[3].toNat - 128) (by omega) _ rfl _ rfl
theorem rtag_mak (s:ByteArray) (hm:s.size <= 1000000) (V:Value) (hV:V = tagV (tagR s.data.toList)):Mak 152 #[.string s] V:=by
 by_cases h0:s.size = 0
 · obtain rfl:s = ⟨#[]⟩:=ba_ext (List.eq_nil_of_length_eq_zero h0);exact rtag_0 V hV
 · have hp:0 < s.size:=by omega
   have hl:=s[0].toNat_lt;have e0:s.data.toList = s[0] :: s.data.toList.drop 1:=drop_cons s 0 hp;have h31:=and31 ⟨s[0].toNat,hl⟩;have h32:=and32 ⟨s[0].toNat,hl⟩
   by_cases h:s[0].toNat % 32 < 31
   · have hV2:V = tagV (some (s[0].toNat / 64,s[0].toNat % 32,decide (s[0].toNat / 32 % 2 = 1),1)):=by
       rw [hV,e0];simp only [tagR,h,if_true]
     rw [hV2];refine rtag_short s hp hm _ _ _ (by omega) h31 h ?_;rw [h32]
     by_cases hb:s[0].toNat / 32 % 2 = 1
     · rw [if_pos hb,if_pos (decide_eq_true hb)]
     · rw [if_neg hb,if_neg (by simpa using hb)]
   · have hV2:V = chkT (s[0].toNat / 64) (decide (s[0].toNat / 32 % 2 = 1)) s.data.toList (digR (s.data.toList.drop 1)):=by
       rw [hV,e0,tagV_cons _ _ h]; rfl
     refine rtag_long s hp hm _ _ (by omega) (by omega) ?_ ?_ V hV2
     · rw [h31]; show ((s[0].toNat % 32:Nat):Int) = 31; omega
     · rw [h32]
       by_cases hb:s[0].toNat / 32 % 2 = 1
       · rw [if_pos hb,decide_eq_true hb]; rfl
       · rw [if_neg hb,decide_eq_false hb]; rfl
theorem digR_b (l:List UInt8) (t k:Nat) (h:digR l = some (t,k)):t <= 2097151 /\ 1 <= k /\ k <= 3 /\ k <= l.length:=by
 match l,h with
 | [],h => simp [digR] at h
 | [a],h =>
   have h1:=a.toNat_lt
   by_cases ha:a.toNat < 128 <;> simp [digR,ha] at h; simp; omega
 | [a,b],h =>
   have h1:=a.toNat_lt;have h2:=b.toNat_lt
   by_cases ha:a.toNat < 128
   · simp [digR,ha] at h; simp; omega
   · by_cases hb:b.toNat < 128 <;> simp [digR,ha,hb] at h; simp; omega
 | a :: b :: c :: m,h =>
   have h1:=a.toNat_lt;have h2:=b.toNat_lt;have h3:=c.toNat_lt
   by_cases ha:a.toNat < 128
   · simp [digR,ha] at h; simp; omega
   · by_cases hb:b.toNat < 128
     · simp [digR,ha,hb] at h; simp; omega
     · by_cases hc:c.toNat < 128 <;> simp [digR,ha,hb,hc] at h; simp; omega
theorem tagR_b (l:List UInt8) (c t:Nat) (b:Bool) (k:Nat) (h:tagR l = some (c,t,b,k)):c <= 3 /\ t <= 2097151 /\ 1 <= k /\ k <= 4 /\ k <= l.length /\ tagL c t b = l.take k:=by
 cases l with
 | nil => cases h
 | cons x l =>
   have hx:=x.toNat_lt
   by_cases h31:x.toNat % 32 < 31
   · simp only [tagR,h31,if_true] at h;cases h;refine ⟨by omega,by omega,by omega,by omega,by simp, ?_⟩;unfold tagL;rw [if_pos h31]
     show [_] = [x]
     congr 1
     have e:first (x.toNat / 64) (x.toNat % 32) (decide (x.toNat / 32 % 2 = 1)) = x.toNat:=by
       unfold first
       by_cases hb:x.toNat / 32 % 2 = 1
       · rw [if_pos (decide_eq_true hb)]; omega
       · rw [if_neg (by simpa using hb)]; omega
     rw [e];simp
   · simp only [tagR,h31,if_false] at h;cases hd:digR l with
     | none => rw [hd] at h; cases h
     | some p =>
       obtain ⟨t2,k2⟩:=p;rw [hd] at h;simp only [] at h;obtain ⟨b1,b2,b3,b4⟩:=digR_b l t2 k2 hd
       split at h
       · rename_i he
         cases h;exact ⟨by omega,b1,by omega,by omega,by simp; omega,he⟩
       · cases h
theorem lenR_b (l:List UInt8) (n k:Nat) (h:lenR l = (n,k,0)):n <= 65535 /\ 1 <= k /\ k <= 3 /\ k <= l.length /\ lenL n = l.take k:=by
 cases l with
 | nil => cases h
 | cons x l =>
   have hx:=x.toNat_lt
   by_cases a1:x.toNat = 128
   · simp [lenR,a1] at h
   · by_cases a2:x.toNat < 128
     · simp [lenR,a1,a2] at h;obtain ⟨rfl,rfl⟩:=h;refine ⟨by omega,by omega,by omega,by simp, ?_⟩;unfold lenL; rw [if_pos a2]; simp
     · by_cases a3:130 < x.toNat
       · simp [lenR,a1,a2,a3] at h
       · by_cases a4:x.toNat = 129
         · have ex:x = 129:=UInt8.toNat_inj.1 a4;cases l with
           | nil => simp [lenR,a4] at h
           | cons d m =>
             have hd:=d.toNat_lt
             by_cases g:128 <= d.toNat
             · simp [lenR,a4,g] at h;obtain ⟨rfl,rfl⟩:=h;refine ⟨by omega,by omega,by omega,by simp, ?_⟩;unfold lenL; rw [if_neg (by omega),if_pos (by omega),ex]; simp
             · simp [lenR,a4,g] at h
         · have e130:x.toNat = 130:=by omega
           have ex:x = 130:=UInt8.toNat_inj.1 e130
           match l,h with
           | [],h => simp [lenR,e130] at h
           | [d],h => simp [lenR,e130] at h
           | d :: e :: m,h =>
             have hd:=d.toNat_lt;have he:=e.toNat_lt
             by_cases g:256 <= 256 * d.toNat + e.toNat
             · simp [lenR,e130,g] at h;obtain ⟨rfl,rfl⟩:=h;refine ⟨by omega,by omega,by omega,by simp, ?_⟩;unfold lenL;rw [if_neg (by omega),if_neg (by omega),ex,show (256 * d.toNat + e.toNat) / 256 = d.toNat from by omega,show (256 * d.toNat + e.toNat) % 256 = e.toNat from by omega];simp
             · simp [lenR,e130,g] at h
def decV (d:Hd × Nat × Nat):Value:=.tuple #[hdV d.1.c d.1.t d.1.b d.1.n,.int .i64 (d.2.1:Int),.int .i64 (d.2.2:Int)]
def cells4 (w:World) (B:Nat) (a b c d:Value):Prop:=(w.cell? ⟨B,0,none⟩ = some a /\ w.cell? ⟨B,1,none⟩ = some b /\ w.cell? ⟨B,2,none⟩ = some c /\ w.cell? ⟨B,3,none⟩ = some d) /\
 (w.frozen? ⟨B,0,none⟩ = false /\ w.frozen? ⟨B,1,none⟩ = false /\ w.frozen? ⟨B,2,none⟩ = false /\ w.frozen? ⟨B,3,none⟩ = false)
theorem cells4_new (w:World) (a b c d:Value) (T:TypeId):cells4 (w.alloc (.cells #[a,b,c,d] T)) w.heap.size a b c d:=by
 refine ⟨box4 (Since.refl _), ?_⟩;simp [go_sem]
theorem cells4.below {w w':World} {B:Nat} {a b c d:Value} (h:cells4 w B a b c d) (n:Nat) (hb:Below n w w') (hB:B < n):cells4 w' B a b c d:=by
 obtain ⟨⟨h0,h1,h2,h3⟩,f0,f1,f2,f3⟩:=h;refine ⟨⟨?_, ?_, ?_, ?_⟩, ?_, ?_, ?_, ?_⟩
 · rw [hb.cell hB]; exact h0
 · rw [hb.cell hB]; exact h1
 · rw [hb.cell hB]; exact h2
 · rw [hb.cell hB]; exact h3
 · rw [hb.frozen hB]; exact f0
 · rw [hb.frozen hB]; exact f1
 · rw [hb.frozen hB]; exact f2
 · rw [hb.frozen hB]; exact f3
theorem Since4 {w w':World} {a b c d:Value} {B:Nat} (h:Since w w') (hB:w.heap.size <= B):Since w ((((w'.setCell ⟨B,0,none⟩ a).setCell ⟨B,1,none⟩ b).setCell ⟨B,2,none⟩ c).setCell ⟨B,3,none⟩ d) :=
 Below.setCell (p:=⟨B,3,none⟩) (Below.setCell (p:=⟨B,2,none⟩) (Below.setCell (p:=⟨B,1,none⟩) (Below.setCell (p:=⟨B,0,none⟩) h hB _) hB _) hB _) hB _
set_option maxHeartbeats 4000000 in
theorem dec_none (s:ByteArray) (c1:Mak 152 #[.string s] (.tuple #[.agg #[.int .i64 0,.int .i64 0,.bool false,.int .i64 0],.int .i64 0,.bool false])):Mak 118 #[.string s] (decV (none0,0,5)):=by
 intro w
 go_enter Tryz.func118,Tryz.ntmps118
 go_wp2_with fail;refine c1.calls0 ?_;intro w1 h1;obtain ⟨⟨r0,r1,r2,r3⟩,f0,f1,f2,f3⟩:=(cells4_new w (.int .i64 0) (.int .i64 0) (.bool false) (.int .i64 0) 115).below _ h1 (by simp);have H1:Hid (Since w w1):=lH (Since.step ((Since.refl w).alloc _) h1);have hlt:w.heap.size < w1.heap.size:=by have h9:=Below.size h1; simp at h9; omega
 clear h1;go_wp2_with fail;obtain ⟨s0,s1,s2,s3⟩:=set4 r0 r1 r2 r3 (.int .i64 0) (.int .i64 0) (.bool false) (.int .i64 0);exact bodyPost_ret (v:=decV (none0,0,5)) (by simp [results,Tryz.results118,go_sem,s0,s1,s2,s3,hlt]; try rfl) rfl ⟨rfl,(Since4 H1.out (Nat.le_refl _)).alloc _⟩
set_option maxHeartbeats 4000000 in
theorem dec_err (s:ByteArray) (_hm:s.size <= 1000000) (c t:Nat) (b:Bool) (k n z e:Nat) (hk:k <= s.size) (he:(e:Int) ≠ 0) (c1:Mak 152 #[.string s] (.tuple #[.agg #[.int .i64 (c:Int),.int .i64 (t:Int),.bool b,.int .i64 0],.int .i64 (k:Int),.bool true])) (c2:Mak 153 #[.string (s.extract k s.size)] (.tuple #[.int .i64 (n:Int),.int .i64 (z:Int),.int .i64 (e:Int)])):Mak 118 #[.string s] (decV (none0,0,e)):=by
 intro w;have hki:(k:Int) <= (s.size:Int):=by omega
 have heb:((e:Int) != 0) = true:=by rw [bne_iff_ne]; exact he
 clear he
 go_enter Tryz.func118,Tryz.ntmps118
 go_wp2_with fail;refine c1.calls0 ?_;intro w1 h1;obtain ⟨⟨r0,r1,r2,r3⟩,f0,f1,f2,f3⟩:=(cells4_new w (.int .i64 0) (.int .i64 0) (.bool false) (.int .i64 0) 115).below _ h1 (by simp);have H1:Hid (Since w w1):=lH (Since.step ((Since.refl w).alloc _) h1);have hlt:w.heap.size < w1.heap.size:=by have h9:=Below.size h1; simp at h9; omega
 clear h1;go_wp2_with fail;refine c2.calls0 ?_;intro w2 h2;obtain ⟨⟨q0,q1,q2,q3⟩,g0,g1,g2,g3⟩:=(cells4_new w1 (.int .i64 (c:Int)) (.int .i64 (t:Int)) (.bool b) (.int .i64 0) 115).below _ h2 (by simp);have r0:w2.cell? ⟨w.heap.size,0,none⟩ = some (.int .i64 0):=(h2.cell (p:=⟨w.heap.size,0,none⟩) (by simp; omega)).trans ((World.cell?_alloc_lt _ _ _ hlt).trans r0);have r1:w2.cell? ⟨w.heap.size,1,none⟩ = some (.int .i64 0):=(h2.cell (p:=⟨w.heap.size,1,none⟩) (by simp; omega)).trans ((World.cell?_alloc_lt _ _ _ hlt).trans r1);have r2:w2.cell? ⟨w.heap.size,2,none⟩ = some (.bool false):=(h2.cell (p:=⟨w.heap.size,2,none⟩) (by simp; omega)).trans ((World.cell?_alloc_lt _ _ _ hlt).trans r2);have r3:w2.cell? ⟨w.heap.size,3,none⟩ = some (.int .i64 0):=(h2.cell (p:=⟨w.heap.size,3,none⟩) (by simp; omega)).trans ((World.cell?_alloc_lt _ _ _ hlt).trans r3);have f0:w2.frozen? ⟨w.heap.size,0,none⟩ = false:=(h2.frozen (p:=⟨w.heap.size,0,none⟩) (by simp; omega)).trans (by simp [go_sem,hlt,f0]);have f1:w2.frozen? ⟨w.heap.size,1,none⟩ = false:=(h2.frozen (p:=⟨w.heap.size,1,none⟩) (by simp; omega)).trans (by simp [go_sem,hlt,f1]);have f2:w2.frozen? ⟨w.heap.size,2,none⟩ = false:=(h2.frozen (p:=⟨w.heap.size,2,none⟩) (by simp; omega)).trans (by simp [go_sem,hlt,f2]);have f3:w2.frozen? ⟨w.heap.size,3,none⟩ = false:=(h2.frozen (p:=⟨w.heap.size,3,none⟩) (by simp; omega)).trans (by simp [go_sem,hlt,f3]);have H2:Hid (Since w w2):=lH (Since.step (H1.out.alloc _) h2);clear h2;go_wp2_with fail;obtain ⟨s0,s1,s2,s3⟩:=set4 r0 r1 r2 r3 (.int .i64 0) (.int .i64 0) (.bool false) (.int .i64 0);exact bodyPost_ret (v:=decV (none0,0,e)) (by simp [results,Tryz.results118,go_sem,s0,s1,s2,s3]; try rfl) rfl ⟨rfl,Since4 H2.out (Nat.le_refl _)⟩
set_option maxHeartbeats 4000000 in
theorem dec_ok (s:ByteArray) (hm:s.size <= 1000000) (c t:Nat) (b:Bool) (k n z:Nat) (hk:k <= s.size) (hz:z <= 3) (c1:Mak 152 #[.string s] (.tuple #[.agg #[.int .i64 (c:Int),.int .i64 (t:Int),.bool b,.int .i64 0],.int .i64 (k:Int),.bool true])) (c2:Mak 153 #[.string (s.extract k s.size)] (.tuple #[.int .i64 (n:Int),.int .i64 (z:Int),.int .i64 ((0:Nat):Int)])):Mak 118 #[.string s] (decV (⟨c,t,b,n⟩,k + z,0)):=by
 intro w;have hki:(k:Int) <= (s.size:Int):=by omega
 go_enter Tryz.func118,Tryz.ntmps118
 go_wp2_with fail;refine c1.calls0 ?_;intro w1 h1;obtain ⟨⟨r0,r1,r2,r3⟩,f0,f1,f2,f3⟩:=(cells4_new w (.int .i64 0) (.int .i64 0) (.bool false) (.int .i64 0) 115).below _ h1 (by simp);have H1:Hid (Since w w1):=lH (Since.step ((Since.refl w).alloc _) h1);have hlt:w.heap.size < w1.heap.size:=by have h9:=Below.size h1; simp at h9; omega
 clear h1;go_wp2_with fail;refine c2.calls0 ?_;intro w2 h2;obtain ⟨⟨q0,q1,q2,q3⟩,g0,g1,g2,g3⟩:=(cells4_new w1 (.int .i64 (c:Int)) (.int .i64 (t:Int)) (.bool b) (.int .i64 0) 115).below _ h2 (by simp);have r0:w2.cell? ⟨w.heap.size,0,none⟩ = some (.int .i64 0):=(h2.cell (p:=⟨w.heap.size,0,none⟩) (by simp; omega)).trans ((World.cell?_alloc_lt _ _ _ hlt).trans r0);have r1:w2.cell? ⟨w.heap.size,1,none⟩ = some (.int .i64 0):=(h2.cell (p:=⟨w.heap.size,1,none⟩) (by simp; omega)).trans ((World.cell?_alloc_lt _ _ _ hlt).trans r1);have r2:w2.cell? ⟨w.heap.size,2,none⟩ = some (.bool false):=(h2.cell (p:=⟨w.heap.size,2,none⟩) (by simp; omega)).trans ((World.cell?_alloc_lt _ _ _ hlt).trans r2);have r3:w2.cell? ⟨w.heap.size,3,none⟩ = some (.int .i64 0):=(h2.cell (p:=⟨w.heap.size,3,none⟩) (by simp; omega)).trans ((World.cell?_alloc_lt _ _ _ hlt).trans r3);have f0:w2.frozen? ⟨w.heap.size,0,none⟩ = false:=(h2.frozen (p:=⟨w.heap.size,0,none⟩) (by simp; omega)).trans (by simp [go_sem,hlt,f0]);have f1:w2.frozen? ⟨w.heap.size,1,none⟩ = false:=(h2.frozen (p:=⟨w.heap.size,1,none⟩) (by simp; omega)).trans (by simp [go_sem,hlt,f1]);have f2:w2.frozen? ⟨w.heap.size,2,none⟩ = false:=(h2.frozen (p:=⟨w.heap.size,2,none⟩) (by simp; omega)).trans (by simp [go_sem,hlt,f2]);have f3:w2.frozen? ⟨w.heap.size,3,none⟩ = false:=(h2.frozen (p:=⟨w.heap.size,3,none⟩) (by simp; omega)).trans (by simp [go_sem,hlt,f3]);have H2:Hid (Since w w2):=lH (Since.step (H1.out.alloc _) h2);clear h2;go_wp2_with fail;have hle:w.heap.size <= w1.heap.size:=Nat.le_of_lt hlt;have r0:=(World.cell?_setCell_other w2 ⟨w1.heap.size,3,none⟩ ⟨w.heap.size,0,none⟩ (.int .i64 (n:Int)) (by simp)).trans r0;have r1:=(World.cell?_setCell_other w2 ⟨w1.heap.size,3,none⟩ ⟨w.heap.size,1,none⟩ (.int .i64 (n:Int)) (by simp)).trans r1;have r2:=(World.cell?_setCell_other w2 ⟨w1.heap.size,3,none⟩ ⟨w.heap.size,2,none⟩ (.int .i64 (n:Int)) (by simp)).trans r2;have r3:=(World.cell?_setCell_other w2 ⟨w1.heap.size,3,none⟩ ⟨w.heap.size,3,none⟩ (.int .i64 (n:Int)) (by first | (simp; done) | (simp; omega))).trans r3;have H2:Hid (Since w (w2.setCell ⟨w1.heap.size,3,none⟩ (.int .i64 (n:Int)))):=lH (Below.setCell (p:=⟨w1.heap.size,3,none⟩) H2.out hle _);obtain ⟨s0,s1,s2,s3⟩:=set4 r0 r1 r2 r3 (.int .i64 (c:Int)) (.int .i64 (t:Int)) (.bool b) (.int .i64 (n:Int));exact bodyPost_ret (v:=decV (⟨c,t,b,n⟩,k + z,0)) (by simp [results,Tryz.results118,go_sem,s0,s1,s2,s3]; try rfl) rfl ⟨rfl,Since4 H2.out (Nat.le_refl _)⟩
theorem dec_mak (s:ByteArray) (hm:s.size <= 1000000) (V:Value) (hV:V = decV (dec s.data.toList)):Mak 118 #[.string s] V:=by
 have c1:=rtag_mak s hm _ rfl;unfold dec at hV;cases ht:tagR s.data.toList with
 | none =>
   rw [ht] at hV c1;rw [hV];exact dec_none s c1
 | some q =>
   obtain ⟨c,t,b,k⟩:=q;rw [ht] at hV c1;obtain ⟨h1,h2,h3,h4,h5,h6⟩:=tagR_b _ _ _ _ _ ht;have h5':k <= s.size:=h5;have hx:(s.extract k s.size).data.toList = s.data.toList.drop k:=by
     rw [ext_list,List.take_of_length_le (by rw [List.length_drop]; exact Nat.le_refl _)]
   have hxs:(s.extract k s.size).size <= 1000000:=by simp; omega
   obtain ⟨n,z,e,hr⟩:∃ n z e,lenR (s.data.toList.drop k) = (n,z,e):=⟨_,_,_,rfl⟩
   simp only [hr] at hV;have c2:=rlen_mak _ hxs n z e (by rw [hx,hr])
   by_cases he:e = 0
   · subst he;have hb:=lenR_b _ _ _ hr;rw [if_pos rfl] at hV;rw [hV];exact dec_ok s hm c t b k n z h5' hb.2.2.1 c1 c2
   · rw [if_neg he] at hV;rw [hV];exact dec_err s hm c t b k n z e h5' (by omega) c1 c2
end Head
end Go.Proofs.YtpanhhjkecebkaaGreat
