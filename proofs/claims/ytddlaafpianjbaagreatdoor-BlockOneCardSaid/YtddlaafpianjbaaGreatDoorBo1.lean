set_option maxRecDepth 100000
namespace Go.Proofs.YtddlaafpianjbaaGreatDoor
namespace Gf
theorem xlc (a b c:Nat):a ^^^ (b ^^^ c) = b ^^^ (a ^^^ c):=by rw [<- Nat.xor_assoc,Nat.xor_comm a b,Nat.xor_assoc]
theorem xcl (a b:Nat):a ^^^ (a ^^^ b) = b:=by rw [<- Nat.xor_assoc,Nat.xor_self,Nat.zero_xor]
def xt (a:Nat):Nat:=(a <<< 1) ^^^ (if a.testBit 7 then 283 else 0)
def st (a b:Nat):Nat -> Nat × Nat
 | 0 => (0,a)
 | k+1 => ((if b.testBit k then (st a b k).1 ^^^ (st a b k).2 else (st a b k).1),xt (st a b k).2)
def mul (a b:Nat):Nat:=(st a b 8).1
theorem xt_xor (a b:Nat):xt (a ^^^ b) = xt a ^^^ xt b:=by
 unfold xt
 rw [Nat.shiftLeft_xor_distrib,Nat.testBit_xor]
 cases a.testBit 7 <;> cases b.testBit 7 <;> simp [Nat.xor_assoc,Nat.xor_comm,xlc]
theorem st_xl (a a' b k:Nat):(st (a ^^^ a') b k).1 = (st a b k).1 ^^^ (st a' b k).1 /\ (st (a ^^^ a') b k).2 = (st a b k).2 ^^^ (st a' b k).2:=by
 induction k with
 | zero => simp [st]
 | succ k ih =>
   simp only [st,ih.1,ih.2,xt_xor]
   cases b.testBit k <;> simp [Nat.xor_assoc,Nat.xor_comm,xlc]
theorem st_xr (a b b' k:Nat):(st a (b ^^^ b') k).1 = (st a b k).1 ^^^ (st a b' k).1 /\ (st a (b ^^^ b') k).2 = (st a b k).2 /\ (st a b' k).2 = (st a b k).2:=by
 induction k with
 | zero => simp [st]
 | succ k ih =>
   simp only [st,ih.1,ih.2.1,ih.2.2,Nat.testBit_xor]
   cases b.testBit k <;> cases b'.testBit k <;> simp [Nat.xor_assoc,Nat.xor_comm,xlc,xcl]
theorem mul_xl (a a' b:Nat):mul (a ^^^ a') b = mul a b ^^^ mul a' b:=(st_xl a a' b 8).1
theorem mul_xr (a b b':Nat):mul a (b ^^^ b') = mul a b ^^^ mul a b':=(st_xr a b b' 8).1
def Add (f:Nat -> Nat):Prop:=∀ x y,f (x ^^^ y) = f x ^^^ f y
theorem Add.zero {f:Nat -> Nat} (h:Add f):f 0 = 0:=by
 have:=h 0 0; simpa using this
def pw (x k:Nat):Nat:=if x.testBit k then 2 ^ k else 0
theorem split_all:(List.range 256).all (fun x => x == pw x 0 ^^^ (pw x 1 ^^^ (pw x 2 ^^^ (pw x 3 ^^^ (pw x 4 ^^^ (pw x 5 ^^^ (pw x 6 ^^^ pw x 7))))))) = true:=by decide +kernel
theorem split (x:Nat) (h:x < 256):x = pw x 0 ^^^ (pw x 1 ^^^ (pw x 2 ^^^ (pw x 3 ^^^ (pw x 4 ^^^ (pw x 5 ^^^ (pw x 6 ^^^ pw x 7)))))):=by
 have:=List.all_eq_true.1 split_all x (List.mem_range.2 h)
 simpa using this
theorem Add.pw {f:Nat -> Nat} (h:Add f) (x k:Nat):f (pw x k) = if x.testBit k then f (2 ^ k) else 0:=by
 unfold Gf.pw; split <;> simp [h.zero]
theorem Add.ext {f g:Nat -> Nat} (hf:Add f) (hg:Add g) (hb:∀ k,k < 8 -> f (2 ^ k) = g (2 ^ k)) (x:Nat) (h:x < 256):f x = g x:=by
 rw [split x h]
 simp only [hf _ _,hg _ _,hf.pw,hg.pw]
 rw [hb 0 (by decide),hb 1 (by decide),hb 2 (by decide),hb 3 (by decide),hb 4 (by decide),hb 5 (by decide),hb 6 (by decide),hb 7 (by decide)]
theorem comm_basis:∀ i,i < 8 -> ∀ j,j < 8 -> mul (2 ^ i) (2 ^ j) = mul (2 ^ j) (2 ^ i):=by decide +kernel
theorem assoc_basis:∀ i,i < 8 -> ∀ j,j < 8 -> ∀ k,k < 8 -> mul (2 ^ i) (mul (2 ^ j) (2 ^ k)) = mul (mul (2 ^ i) (2 ^ j)) (2 ^ k):=by decide +kernel
theorem mul_comm (a b:Nat) (ha:a < 256) (hb:b < 256):mul a b = mul b a:=by
 refine Add.ext (f:=fun a => mul a b) (g:=fun a => mul b a) (fun x y => mul_xl x y b) (fun x y => mul_xr b x y) (fun i hi => ?_) a ha
 exact Add.ext (f:=fun b => mul (2 ^ i) b) (g:=fun b => mul b (2 ^ i)) (fun x y => mul_xr _ x y) (fun x y => mul_xl x y _) (fun j hj => comm_basis i hi j hj) b hb
theorem mul_assoc (a b c:Nat) (ha:a < 256) (hb:b < 256) (hc:c < 256):mul a (mul b c) = mul (mul a b) c:=by
 refine Add.ext (f:=fun a => mul a (mul b c)) (g:=fun a => mul (mul a b) c) (fun x y => mul_xl x y _) (fun x y => by simp only [mul_xl]) (fun i hi => ?_) a ha
 refine Add.ext (f:=fun b => mul (2 ^ i) (mul b c)) (g:=fun b => mul (mul (2 ^ i) b) c) (fun x y => by simp only [mul_xl,mul_xr]) (fun x y => by simp only [mul_xl,mul_xr]) (fun j hj => ?_) b hb
 exact Add.ext (f:=fun c => mul (2 ^ i) (mul (2 ^ j) c)) (g:=fun c => mul (mul (2 ^ i) (2 ^ j)) c) (fun x y => by simp only [mul_xr]) (fun x y => by simp only [mul_xr]) (fun k hk => assoc_basis i hi j hj k hk) c hc
theorem xt_all:(List.range 256).all (fun x => decide (xt x < 256)) = true:=by decide +kernel
theorem xt_lt (a:Nat) (h:a < 256):xt a < 256:=by
 have:=List.all_eq_true.1 xt_all a (List.mem_range.2 h); simpa using this
theorem st_lt (a b k:Nat) (ha:a < 256):(st a b k).1 < 256 /\ (st a b k).2 < 256:=by
 induction k with
 | zero => exact ⟨by simp [st],ha⟩
 | succ k ih =>
   refine ⟨?_,xt_lt _ ih.2⟩
   simp only [st]; split
   · exact Nat.xor_lt_two_pow (n:=8) ih.1 ih.2
   · exact ih.1
theorem mul_lt (a b:Nat) (ha:a < 256):mul a b < 256:=(st_lt a b 8 ha).1
def powF:Nat -> Nat -> Nat -> Nat -> Nat
 | 0,p,_,_ => p
 | f+1,p,a,n => if n = 0 then p else powF f (if n % 2 = 1 then mul p a else p) (mul a a) (n / 2)
def pow (a n:Nat):Nat:=powF 64 1 a n
def inv (a:Nat):Nat:=pow a 254
def logF:Nat -> Nat -> Nat -> Nat -> Option Nat
 | 0,_,_,_ => none
 | f+1,p,n,a => if p = a then some n else logF f (mul p 3) (n + 1) a
def log (a:Nat):Option Nat:=logF 255 1 0 a
theorem powF_zero (f p a:Nat):powF f p a 0 = p:=by cases f <;> simp [powF]
theorem powF_lt (f p a n:Nat) (hp:p < 256):powF f p a n < 256:=by
 induction f generalizing p a n with
 | zero => exact hp
 | succ f ih =>
   simp only [powF]; split
   · exact hp
   · apply ih; split
     · exact mul_lt _ _ hp
     · exact hp
theorem pow_lt (a n:Nat):pow a n < 256:=powF_lt _ _ _ _ (by decide)
theorem inv_lt (a:Nat):inv a < 256:=pow_lt _ _
def logN (a:Nat):Nat:=(log a).getD 0
def logB (a:Nat):Bool:=(log a).isSome
theorem laws_all:(List.range 256).all (fun a => (a == 0 && !logB a && inv a == 0) || (mul a (inv a) == 1 && logB a && decide (logN a <= 254) && pow 3 (logN a) == a)) = true:=by decide +kernel
theorem laws (a:Nat) (h:a < 256) (h0:a ≠ 0):mul a (inv a) = 1 /\ logB a = true /\ logN a <= 254 /\ pow 3 (logN a) = a:=by
 have:=List.all_eq_true.1 laws_all a (List.mem_range.2 h)
 simpa [h0,and_assoc] using this
theorem mul_01_all:(List.range 256).all (fun x => mul x 1 == x && mul x 0 == 0) = true:=by decide +kernel
theorem mul_01 (a:Nat) (h:a < 256):mul a 1 = a /\ mul a 0 = 0:=by
 have:=List.all_eq_true.1 mul_01_all a (List.mem_range.2 h); simpa using this
def cl (a b:Nat):Nat -> Nat
 | 0 => 0
 | k+1 => if b.testBit k then cl a b k ^^^ (a <<< k) else cl a b k
def red (p:Nat):Nat -> Nat
 | 0 => p
 | j+1 => if (red p j).testBit (14 - j) then red p j ^^^ (283 <<< (6 - j)) else red p j
def rmul (a b:Nat):Nat:=red (cl a b 8) 7 % 256
theorem cl_xl (a a' b k:Nat):cl (a ^^^ a') b k = cl a b k ^^^ cl a' b k:=by
 induction k with
 | zero => simp [cl]
 | succ k ih =>
   simp only [cl,ih,Nat.shiftLeft_xor_distrib]
   cases b.testBit k <;> simp [Nat.xor_assoc,xlc]
theorem cl_xr (a b b' k:Nat):cl a (b ^^^ b') k = cl a b k ^^^ cl a b' k:=by
 induction k with
 | zero => simp [cl]
 | succ k ih =>
   simp only [cl,ih,Nat.testBit_xor]
   cases b.testBit k <;> cases b'.testBit k <;> simp [Nat.xor_assoc,Nat.xor_comm,xlc,xcl]
theorem red_x (p q j:Nat):red (p ^^^ q) j = red p j ^^^ red q j:=by
 induction j with
 | zero => rfl
 | succ j ih =>
   simp only [red,ih,Nat.testBit_xor]
   cases (red p j).testBit (14 - j) <;> cases (red q j).testBit (14 - j) <;> simp [Nat.xor_assoc,Nat.xor_comm,xlc,xcl]
theorem rmul_xl (a a' b:Nat):rmul (a ^^^ a') b = rmul a b ^^^ rmul a' b:=by
 unfold rmul; rw [cl_xl,red_x]; exact Nat.xor_mod_two_pow (n:=8)
theorem rmul_xr (a b b':Nat):rmul a (b ^^^ b') = rmul a b ^^^ rmul a b':=by
 unfold rmul; rw [cl_xr,red_x]; exact Nat.xor_mod_two_pow (n:=8)
theorem rmul_basis:∀ i,i < 8 -> ∀ j,j < 8 -> rmul (2 ^ i) (2 ^ j) = mul (2 ^ i) (2 ^ j):=by decide +kernel
theorem rmul_eq (a b:Nat) (ha:a < 256) (hb:b < 256):rmul a b = mul a b:=by
 refine Add.ext (f:=fun a => rmul a b) (g:=fun a => mul a b) (fun x y => rmul_xl x y b) (fun x y => mul_xl x y b) (fun i hi => ?_) a ha
 exact Add.ext (f:=fun b => rmul (2 ^ i) b) (g:=fun b => mul (2 ^ i) b) (fun x y => rmul_xr _ x y) (fun x y => mul_xr _ x y) (fun j hj => rmul_basis i hi j hj) b hb
theorem cl_lt (a b k:Nat) (ha:a < 256) (hk:k <= 8):cl a b k < 65536:=by
 induction k with
 | zero => simp [cl]
 | succ k ih =>
   simp only [cl]
   have h1:=ih (by omega)
   split
   · refine Nat.xor_lt_two_pow (n:=16) h1 ?_
     rw [Nat.shiftLeft_eq]
     have:2 ^ k <= 2 ^ 8:=Nat.pow_le_pow_right (by decide) (by omega)
     calc a * 2 ^ k <= 255 * 2 ^ 8:=Nat.mul_le_mul (by omega) this
       _ < 2 ^ 16:=by decide
   · exact h1
theorem red_lt (p j:Nat) (hp:p < 65536) (hj:j <= 7):red p j < 65536:=by
 induction j with
 | zero => exact hp
 | succ j ih =>
   simp only [red]
   have h1:=ih (by omega)
   split
   · refine Nat.xor_lt_two_pow (n:=16) h1 ?_
     rw [Nat.shiftLeft_eq]
     have:2 ^ (6 - j) <= 2 ^ 6:=Nat.pow_le_pow_right (by decide) (by omega)
     calc 283 * 2 ^ (6 - j) <= 283 * 2 ^ 6:=Nat.mul_le_mul (by omega) this
       _ < 2 ^ 16:=by decide
   · exact h1
theorem testBit_div (b k:Nat):b.testBit k = decide (b / 2 ^ k % 2 = 1):=by
 rw [Nat.testBit_eq_decide_div_mod_eq]
def ipw (a:Nat):Nat -> Nat
 | 0 => 1
 | k+1 => mul (ipw a k) a
theorem ipw_lt (a k:Nat):ipw a k < 256:=by
 induction k with
 | zero => show (1:Nat) < 256; decide
 | succ k ih => exact mul_lt _ _ ih
theorem one_mul (a:Nat) (h:a < 256):mul 1 a = a:=by rw [mul_comm 1 a (by decide) h]; exact (mul_01 a h).1
theorem ipw_add (a m n:Nat) (ha:a < 256):ipw a (m + n) = mul (ipw a m) (ipw a n):=by
 induction n with
 | zero => exact ((mul_01 _ (ipw_lt a m)).1).symm
 | succ n ih => show mul (ipw a (m + n)) a = mul (ipw a m) (mul (ipw a n) a); rw [ih,mul_assoc _ _ _ (ipw_lt a m) (ipw_lt a n) ha]
theorem ipw_sq (a k:Nat) (ha:a < 256):ipw (mul a a) k = ipw a (2 * k):=by
 induction k with
 | zero => rfl
 | succ k ih =>
   show mul (ipw (mul a a) k) (mul a a) = mul (mul (ipw a (2 * k)) a) a
   rw [ih,mul_assoc _ _ _ (ipw_lt a _) ha ha]
theorem powF_eq (f p a n:Nat) (hp:p < 256) (ha:a < 256) (hn:n < 2 ^ f):powF f p a n = mul p (ipw a n):=by
 induction f generalizing p a n with
 | zero => obtain rfl : n = 0 := by omega
           exact ((mul_01 p hp).1).symm
 | succ f ih =>
   simp only [powF]
   by_cases h0:n = 0
   · rw [if_pos h0,h0]; exact ((mul_01 p hp).1).symm
   · rw [if_neg h0]
     have hn2:n / 2 < 2 ^ f:=by rw [Nat.pow_succ] at hn; omega
     by_cases h1:n % 2 = 1
     · rw [if_pos h1,ih _ _ _ (mul_lt _ _ hp) (mul_lt _ _ ha) hn2,ipw_sq a _ ha]
       have hx:ipw a n = mul (ipw a (2 * (n / 2))) a:=by
         conv => lhs; rw [show n = 2 * (n / 2) + 1 from by omega]
         rfl
       rw [hx,mul_comm (ipw a (2 * (n / 2))) a (ipw_lt _ _) ha,mul_assoc p a _ hp ha (ipw_lt _ _)]
     · rw [if_neg h1,ih _ _ _ hp (mul_lt _ _ ha) hn2,ipw_sq a _ ha,show 2 * (n / 2) = n from by omega]
theorem pow_ipw (a n:Nat) (ha:a < 256) (hn:n < 2 ^ 64):pow a n = ipw a n:=by
 unfold pow; rw [powF_eq 64 1 a n (by decide) ha hn,one_mul _ (ipw_lt a n)]
theorem pow_zero (a:Nat):pow a 0 = 1:=powF_zero _ _ _
theorem p255_all:(List.range 256).all (fun a => a == 0 || pow a 255 == 1) = true:=by decide +kernel
theorem ipw_255 (a:Nat) (ha:a < 256) (h0:a ≠ 0):ipw a 255 = 1:=by
 have:=List.all_eq_true.1 p255_all a (List.mem_range.2 ha)
 rw [<- pow_ipw a 255 ha (by decide)]
 simpa [h0] using this
theorem ipw_mod (a q r:Nat) (ha:a < 256) (h0:a ≠ 0):ipw a (255 * q + r) = ipw a r:=by
 induction q with
 | zero => simp
 | succ q ih => rw [show 255 * (q + 1) + r = 255 + (255 * q + r) from by omega,ipw_add a 255 _ ha,ipw_255 a ha h0,ih,one_mul _ (ipw_lt a r)]
theorem pow_mod (a n:Nat) (ha:a < 256) (h0:a ≠ 0) (hn:n < 2 ^ 64):pow a n = ipw a (n % 255):=by
 rw [pow_ipw a n ha hn]
 conv => lhs; rw [show n = 255 * (n / 255) + n % 255 from by omega]
 exact ipw_mod a _ _ ha h0
theorem pow_of_zero (n:Nat) (h1:1 <= n) (hn:n < 2 ^ 64):pow 0 n = 0:=by
 rw [pow_ipw 0 n (by decide) hn]
 obtain ⟨m,rfl⟩:∃ m,n = m + 1:=⟨n - 1,by omega⟩
 exact (mul_01 _ (ipw_lt 0 m)).2
end Gf
end Go.Proofs.YtddlaafpianjbaaGreatDoor
