import Derived.Test.YtpanhhjkecebkaaGreatRows
import Derived.WalkKit
set_option maxRecDepth 100000
namespace Go.Proofs.YtpanhhjkecebkaaGreat
def bs (l:List UInt8):ByteArray:=⟨l.toArray⟩
theorem bs_list (s:ByteArray):bs s.data.toList = s:=by cases s; rfl
theorem list_bs (l:List UInt8):(bs l).data.toList = l:=rfl
theorem size_bs (l:List UInt8):(bs l).size = l.length:=rfl
theorem ba_ext {s t:ByteArray} (h:s.data.toList = t.data.toList):s = t:=by
 rw [<- bs_list s,<- bs_list t,h]
theorem ext_list (s:ByteArray) (a b:Nat):(s.extract a b).data.toList = (s.data.toList.drop a).take (b - a):=by
 rw [ByteArray.data_extract,Array.toList_extract,List.extract_eq_take_drop]
theorem app_list (s t:ByteArray):(s ++ t).data.toList = s.data.toList ++ t.data.toList:=by
 rw [ByteArray.data_append,Array.toList_append]
theorem nums_list (xs:List Int):(strOfNums xs).data.toList = xs.map fun n => UInt8.ofNat n.toNat:=rfl
theorem bs_nums (xs:List Int):strOfNums xs = bs (xs.map fun n => UInt8.ofNat n.toNat):=rfl
theorem nums_bytes (l:List UInt8):strOfNums (l.map fun c => (c.toNat:Int)) = bs l:=by
 rw [bs_nums,List.map_map];have h:((fun n:Int => UInt8.ofNat n.toNat) ∘ fun c:UInt8 => (c.toNat:Int)) = id:=by funext c; simp
 rw [h,List.map_id]
theorem toList_d (R:ByteArray):R.toList = R.data.toList:=by first | exact ByteArray.toList_eq R | exact Go.ByteArray.toList_eq R
theorem str_ne_f {p q:ByteArray} (h:p ≠ q):(p.toList == q.toList) = false:=by
 rw [beq_eq_false_iff_ne,toList_d,toList_d];exact fun h2 => h (ba_ext h2)
theorem str_ne_t {p q:ByteArray} (h:p ≠ q):(!p.toList == q.toList) = true:=by rw [str_ne_f h]; rfl
theorem str_eq_t {p q:ByteArray} (h:p = q):(p.toList == q.toList) = true:=by rw [h]; exact beq_self_eq_true _
theorem some_bytes_f (R:ByteArray) (h:0 < R.size):R.toList.isEmpty = false:=by
 rw [toList_d];cases hl:R.data.toList with
 | nil =>
   have h9:R.size = R.data.toList.length:=rfl;rw [hl,List.length_nil] at h9;omega
 | cons x l => rfl
theorem str_eq_f {p q:ByteArray} (h:p = q):(!p.toList == q.toList) = false:=by rw [str_eq_t h]; rfl
end Go.Proofs.YtpanhhjkecebkaaGreat
namespace Go.Proofs.YtpanhhjkecebkaaGreat
namespace Oid
def Ok:List Int -> Prop
 | a :: b :: r => r.length <= 18 /\ 0 <= a /\ a <= 2 /\ 0 <= b /\ (b <= 39 ∨ a = 2 /\ b <= 2147483567) /\ ∀ x ∈ r,0 <= x /\ x <= 2147483647
 | _ => False
instance (l:List Int):Decidable (Ok l):=by unfold Ok; split <;> infer_instance
def hi (n:Nat):List UInt8:=if _h:n = 0 then [] else hi (n / 128) ++ [UInt8.ofNat (n % 128 + 128)]
termination_by n
decreasing_by omega
theorem hi_0:hi 0 = []:=by unfold hi; rfl
theorem hi_pos (n:Nat) (h:0 < n):hi n = hi (n / 128) ++ [UInt8.ofNat (n % 128 + 128)]:=by rw [hi,dif_neg (by omega)]
def num (n:Nat):List UInt8:=hi (n / 128) ++ [UInt8.ofNat (n % 128)]
def encN (l:List Nat):List UInt8:=l.flatMap num
def enc:List Int -> List UInt8
 | a :: b :: r => num (40 * a + b).toNat ++ encN (r.map Int.toNat)
 | _ => []
theorem lo_b (k:Nat) (h:k < 128):(UInt8.ofNat k).toNat = k:=by rw [UInt8.toNat_ofNat']; omega
theorem hi_b (k:Nat) (h:k < 128):(UInt8.ofNat (k + 128)).toNat = k + 128:=by rw [UInt8.toNat_ofNat']; omega
theorem hi_len (n:Nat):∀ k,n < 128 ^ k -> (hi n).length <= k:=by
 intro k
 induction k generalizing n with
 | zero => intro h; simp at h; subst h; rw [hi_0]; simp
 | succ k ih =>
   intro h
   by_cases h0:n = 0
   · subst h0; rw [hi_0]; simp
   · rw [hi_pos n (by omega),List.length_append];have:=ih (n / 128) (by rw [Nat.div_lt_iff_lt_mul (by decide),<- Nat.pow_succ]; exact h);simp; omega
theorem num_len (n:Nat) (h:n < 34359738368):(num n).length <= 5:=by
 unfold num;rw [List.length_append];have:=hi_len (n / 128) 4 (by rw [Nat.div_lt_iff_lt_mul (by decide)]; exact h);simp; omega
def push (l:List Int) (n:Nat):List Int:=if l = [] then [((min (n / 40) 2:Nat):Int),((n - 40 * min (n / 40) 2:Nat):Int)] else l ++ [(n:Int)]
def pd:List UInt8 -> Nat -> Bool -> List Int -> Option (List Int)
 | [],_,b,l => if b then none else some l
 | c :: cs,n,b,l =>
   if (b = false /\ c.toNat = 128) ∨ 16777215 < n then none
   else if 128 <= c.toNat then pd cs (n * 128 + c.toNat % 128) true l
   else if l.length = 20 then none else pd cs 0 false (push l (n * 128 + c.toNat % 128))
def rd:List UInt8 -> Nat -> List Int -> Option (List Int)
 | [],_,l => some l
 | c :: cs,n,l =>
   if 21 <= l.length then some l
   else if 4294967296 < 128 * n + c.toNat % 128 then none
   else if 127 < c.toNat then rd cs (128 * n + c.toNat % 128) l
   else rd cs 0 (push l (128 * n + c.toNat % 128))
def pushes (l:List Int):List Nat -> List Int
 | [] => l
 | n :: ns => pushes (push l n) ns
theorem pd_hi (n:Nat):∀ (cs:List UInt8) (l:List Int),n <= 16777215 -> 0 < n -> pd (hi n ++ cs) 0 false l = pd cs n true l:=by
 induction n using Nat.strongRecOn with
 | _ n ih =>
   intro cs l h h0;rw [hi_pos n h0,List.append_assoc]
   by_cases h1:n / 128 = 0
   · rw [h1,hi_0];simp only [List.nil_append,List.cons_append,pd];rw [hi_b _ (by omega),if_neg (by omega),if_pos (by omega)]
     congr 1
     omega
   · rw [ih (n / 128) (by omega) _ _ (by omega) (by omega)];simp only [List.cons_append,List.nil_append,pd];rw [hi_b _ (by omega),if_neg (by simp; omega),if_pos (by omega)]
     congr 1
     omega
theorem pd_num (n:Nat) (cs:List UInt8) (l:List Int) (h:n <= 2147483647) (hl:l.length ≠ 20):pd (num n ++ cs) 0 false l = pd cs 0 false (push l n):=by
 unfold num;rw [List.append_assoc]
 by_cases h1:n / 128 = 0
 · rw [h1,hi_0];simp only [List.nil_append,List.cons_append,pd];rw [lo_b _ (by omega),if_neg (by omega),if_neg (by omega),if_neg hl]
   congr 2
   omega
 · rw [pd_hi (n / 128) _ _ (by omega) (by omega)];simp only [List.cons_append,List.nil_append,pd];rw [lo_b _ (by omega),if_neg (by simp; omega),if_neg (by omega),if_neg hl]
   congr 2
   omega
theorem push_len (l:List Int) (n:Nat):(push l n).length = if l = [] then 2 else l.length + 1:=by unfold push; split <;> simp
theorem push_some (l:List Int) (n:Nat) (h:l ≠ []):push l n = l ++ [(n:Int)]:=by unfold push; rw [if_neg h]
theorem pd_nums (ns:List Nat):∀ l:List Int,l ≠ [] -> (∀ n ∈ ns,n <= 2147483647) -> l.length + ns.length <= 20 -> pd (encN ns) 0 false l = some (l ++ ns.map fun n:Nat => (n:Int)):=by
 induction ns with
 | nil => intro l _ _ _; simp [encN,pd]
 | cons n ns ih =>
   intro l hl hn hk;simp only [List.length_cons] at hk;rw [show encN (n :: ns) = num n ++ encN ns from rfl,pd_num n _ l (hn n (by simp)) (by omega),push_some l n hl];rw [ih _ (by simp) (fun m hm => hn m (by simp [hm])) (by simp; omega)];simp
theorem pd_enc (l:List Int) (h:Ok l):pd (enc l) 0 false [] = some l:=by
 match l,h with
 | a :: b :: r,⟨hr,ha,ha2,hb,hb2,hx⟩ =>
   have hr2:(r.map Int.toNat).map (fun n:Nat => (n:Int)) = r:=by
     rw [List.map_map];have:∀ x ∈ r,((fun n:Nat => (n:Int)) ∘ Int.toNat) x = x:=fun x hx2 => by have:=hx x hx2; simp; omega
     rw [List.map_congr_left this]; simp
   unfold enc;rw [pd_num _ _ _ (by omega) (by simp)];have hp:push [] (40 * a + b).toNat = [a,b]:=by
     unfold push;rw [if_pos rfl];have h1:((min ((40 * a + b).toNat / 40) 2:Nat):Int) = a:=by omega
     have h2:(((40 * a + b).toNat - 40 * min ((40 * a + b).toNat / 40) 2:Nat):Int) = b:=by omega
     rw [h1,h2]
   rw [hp,pd_nums _ _ (by simp) (fun n hn => by
     obtain ⟨x,hx2,rfl⟩:=List.mem_map.1 hn;have:=hx x hx2; omega) (by simp; omega),hr2]
   rfl
theorem pd_sound:∀ (cs:List UInt8) (n:Nat) (b:Bool) (l m:List Int),pd cs n b l = some m -> (b = false -> n = 0) -> (b = true -> 0 < n) ->
   ∃ ns:List Nat,m = pushes l ns /\ hi n ++ cs = encN ns /\ (∀ k ∈ ns,k <= 2147483647):=by
 intro cs
 induction cs with
 | nil =>
   intro n b l m h h0 h1;unfold pd at h;cases b with
   | true => simp at h
   | false =>
     simp at h;subst h;exact ⟨[],rfl,by rw [h0 rfl,hi_0]; rfl,by simp⟩
 | cons c cs ih =>
   intro n b l m h h0 h1;unfold pd at h
   by_cases hA:(b = false /\ c.toNat = 128) ∨ 16777215 < n
   · rw [if_pos hA] at h; cases h
   · rw [if_neg hA] at h;have hc:=c.toNat_lt
     by_cases hB:128 <= c.toNat
     · rw [if_pos hB] at h;have hpos:0 < n * 128 + c.toNat % 128:=by
         cases b with
         | true => have:=h1 rfl; omega
         | false =>
           have:=h0 rfl;have:c.toNat ≠ 128:=fun h => hA (Or.inl ⟨rfl,h⟩)
           omega
       obtain ⟨ns,hm,he,hk⟩:=ih _ _ _ _ h (by simp) (fun _ => hpos);refine ⟨ns,hm, ?_,hk⟩;rw [<- he,hi_pos _ hpos];have e1:(n * 128 + c.toNat % 128) / 128 = n:=by omega
       have e2:UInt8.ofNat ((n * 128 + c.toNat % 128) % 128 + 128) = c:=by
         apply UInt8.toNat_inj.1
         rw [hi_b _ (by omega)]; omega
       rw [e1,e2,List.append_assoc]; rfl
     · rw [if_neg hB] at h
       by_cases hl:l.length = 20
       · rw [if_pos hl] at h; cases h
       · rw [if_neg hl] at h;obtain ⟨ns,hm,he,hk⟩:=ih _ _ _ _ h (by simp) (by simp);refine ⟨(n * 128 + c.toNat % 128) :: ns,hm, ?_, ?_⟩
         · rw [show encN ((n * 128 + c.toNat % 128) :: ns) = num (n * 128 + c.toNat % 128) ++ encN ns from rfl,<- he,hi_0,List.nil_append,num];have e1:(n * 128 + c.toNat % 128) / 128 = n:=by omega
           have e2:UInt8.ofNat ((n * 128 + c.toNat % 128) % 128) = c:=by
             apply UInt8.toNat_inj.1
             rw [lo_b _ (by omega)]; omega
           rw [e1,e2,List.append_assoc]; rfl
         · intro k hk2;simp only [List.mem_cons] at hk2;rcases hk2 with rfl | hk2
           · have:¬ 16777215 < n:=fun h => hA (Or.inr h)
             omega
           · exact hk k hk2
theorem pushes_some (ns:List Nat):∀ l:List Int,l ≠ [] -> pushes l ns = l ++ ns.map fun n:Nat => (n:Int):=by
 induction ns with
 | nil => intro l _; simp [pushes]
 | cons n ns ih =>
   intro l hl;rw [pushes,push_some l n hl,ih _ (by simp)];simp
theorem enc_pushes (ns:List Nat):enc (pushes [] ns) = encN ns:=by
 cases ns with
 | nil => rfl
 | cons n ns =>
   rw [pushes,pushes_some _ _ (by unfold push; simp),push,if_pos rfl]
   show num _ ++ encN _ = num n ++ encN ns
   have e1:(40 * ((min (n / 40) 2:Nat):Int) + ((n - 40 * min (n / 40) 2:Nat):Int)).toNat = n:=by omega
   rw [e1]
   show num n ++ encN (List.map Int.toNat (List.map (fun n:Nat => (n:Int)) ns)) = num n ++ encN ns
   rw [List.map_map];have:(Int.toNat ∘ fun n:Nat => (n:Int)) = id:=by funext x; simp
   rw [this,List.map_id]
theorem pd_enc2 (c:List UInt8) (m:List Int) (h:pd c 0 false [] = some m):enc m = c:=by
 obtain ⟨ns,rfl,he,_⟩:=pd_sound c 0 false [] m h (by simp) (by simp);rw [enc_pushes,<- he,hi_0]; rfl
def decL (c:List UInt8):List Int:=((pd c 0 false []).filter fun l => decide (Ok l)).getD []
def decB (c:List UInt8):Bool:=((pd c 0 false []).filter fun l => decide (Ok l)).isSome
theorem dec_some (c:List UInt8) (m:List Int) (h:pd c 0 false [] = some m) (hk:Ok m):decL c = m /\ decB c = true:=by
 unfold decL decB; rw [h]; simp [hk,Option.filter]
theorem dec_bad (c:List UInt8) (m:List Int) (h:pd c 0 false [] = some m) (hk:¬ Ok m):decL c = [] /\ decB c = false:=by
 unfold decL decB; rw [h]; simp [hk,Option.filter]
theorem dec_none (c:List UInt8) (h:pd c 0 false [] = none):decL c = [] /\ decB c = false:=by
 unfold decL decB; rw [h]; simp [Option.filter]
theorem dec_iff (c:List UInt8) (l:List Int):(decB c = true /\ decL c = l) ↔ Ok l /\ enc l = c:=by
 constructor
 · intro ⟨h1,h2⟩;cases h:pd c 0 false [] with
   | none => rw [(dec_none c h).2] at h1; cases h1
   | some m =>
     by_cases hk:Ok m
     · rw [(dec_some c m h hk).1] at h2;subst h2;exact ⟨hk,pd_enc2 c _ h⟩
     · rw [(dec_bad c m h hk).2] at h1; cases h1
 · rintro ⟨h1,rfl⟩;have:=dec_some _ l (pd_enc l h1) h1;exact ⟨this.2,this.1⟩
theorem dec_false (c:List UInt8) (h:decB c = false):decL c = []:=by
 cases h2:pd c 0 false [] with
 | none => exact (dec_none c h2).1
 | some m =>
   by_cases hk:Ok m
   · rw [(dec_some c m h2 hk).2] at h; cases h
   · exact (dec_bad c m h2 hk).1
theorem rd_hi (n:Nat):∀ (cs:List UInt8) (l:List Int),n <= 16777215 -> l.length < 21 -> rd (hi n ++ cs) 0 l = rd cs n l:=by
 induction n using Nat.strongRecOn with
 | _ n ih =>
   intro cs l h hl
   by_cases h0:n = 0
   · subst h0; rw [hi_0]; rfl
   · rw [hi_pos n (by omega),List.append_assoc,ih (n / 128) (by omega) _ _ (by omega) hl];simp only [List.cons_append,List.nil_append,rd];rw [hi_b _ (by omega),if_neg (by omega),if_neg (by omega),if_pos (by omega)]
     congr 1
     omega
theorem rd_num (n:Nat) (cs:List UInt8) (l:List Int) (h:n <= 2147483647) (hl:l.length < 21):rd (num n ++ cs) 0 l = rd cs 0 (push l n):=by
 unfold num;rw [List.append_assoc,rd_hi (n / 128) _ _ (by omega) hl];simp only [List.cons_append,List.nil_append,rd];rw [lo_b _ (by omega),if_neg (by omega),if_neg (by omega),if_neg (by omega)]
 congr 2
 omega
theorem rd_nums (ns:List Nat):∀ l:List Int,l ≠ [] -> (∀ n ∈ ns,n <= 2147483647) -> l.length + ns.length <= 20 -> rd (encN ns) 0 l = some (l ++ ns.map fun n:Nat => (n:Int)):=by
 induction ns with
 | nil => intro l _ _ _; simp [encN,rd]
 | cons n ns ih =>
   intro l hl hn hk;simp only [List.length_cons] at hk;rw [show encN (n :: ns) = num n ++ encN ns from rfl,rd_num n _ l (hn n (by simp)) (by omega),push_some l n hl];rw [ih _ (by simp) (fun m hm => hn m (by simp [hm])) (by simp; omega)];simp
theorem rd_enc (l:List Int) (h:Ok l):rd (enc l) 0 [] = some l:=by
 match l,h with
 | a :: b :: r,⟨hr,ha,ha2,hb,hb2,hx⟩ =>
   have hr2:(r.map Int.toNat).map (fun n:Nat => (n:Int)) = r:=by
     rw [List.map_map];have:∀ x ∈ r,((fun n:Nat => (n:Int)) ∘ Int.toNat) x = x:=fun x hx2 => by have:=hx x hx2; simp; omega
     rw [List.map_congr_left this]; simp
   unfold enc;rw [rd_num _ _ _ (by omega) (by simp)];have hp:push [] (40 * a + b).toNat = [a,b]:=by
     unfold push;rw [if_pos rfl];have h1:((min ((40 * a + b).toNat / 40) 2:Nat):Int) = a:=by omega
     have h2:(((40 * a + b).toNat - 40 * min ((40 * a + b).toNat / 40) 2:Nat):Int) = b:=by omega
     rw [h1,h2]
   rw [hp,rd_nums _ _ (by simp) (fun n hn => by
     obtain ⟨x,hx2,rfl⟩:=List.mem_map.1 hn;have:=hx x hx2; omega) (by simp; omega),hr2]
   rfl
end Oid
end Go.Proofs.YtpanhhjkecebkaaGreat
