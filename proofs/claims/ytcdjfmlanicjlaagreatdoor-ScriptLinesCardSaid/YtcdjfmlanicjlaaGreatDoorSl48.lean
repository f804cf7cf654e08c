import Derived.Test.YtcdjfmlanicjlaaGreatDoorSl44
import Derived.Test.YtcdjfmlanicjlaaGreatDoorSl18
set_option maxRecDepth 100000
namespace Go.Proofs.YtcdjfmlanicjlaaGreatDoor
open Go.RowKit
namespace Scr
open Rcd (hx)
structure St where
 v:ByteArray
 n:ByteArray
 o:ByteArray
 f:Int
 t:ByteArray
 b:ByteArray
def E0:ByteArray:=⟨#[]⟩
def noS:St:=⟨E0,E0,E0,0,E0,E0⟩
def putL:List UInt8:=[112,117,116]
def addL:List UInt8:=[97,100,100]
def getL:List UInt8:=[103,101,116]
def expL:List UInt8:=[101,120,112,111,114,116]
def droL:List UInt8:=[100,114,111,112]
def cheL:List UInt8:=[99,104,101,99,107]
def movL:List UInt8:=[109,111,118,101]
def rekL:List UInt8:=[114,101,107,101,121]
def lisL:List UInt8:=[108,105,115,116]
def layV (v:List UInt8):Option (List UInt8) :=
 if v = putL then some [78,70,66,84] else if v = addL then some [78,70,66]
 else if v = getL then some [78] else if v = expL then some [78] else if v = droL then some [78] else if v = cheL then some [78]
 else if v = movL then some [78,79] else if v = rekL then some [66] else if v = lisL then some [] else none
theorem lay_cases {v fs:List UInt8} (h:layV v = some fs) :
   (v = putL /\ fs = [78,70,66,84]) ∨ (v = addL /\ fs = [78,70,66]) ∨ ((v = getL ∨ v = expL ∨ v = droL ∨ v = cheL) /\ fs = [78]) ∨ (v = movL /\ fs = [78,79]) ∨ (v = rekL /\ fs = [66]) ∨ (v = lisL /\ fs = []):=by
 unfold layV at h
 split at h
 · exact Or.inl ⟨by assumption,(Option.some.inj h).symm⟩
 split at h
 · exact Or.inr (Or.inl ⟨by assumption,(Option.some.inj h).symm⟩)
 split at h
 · exact Or.inr (Or.inr (Or.inl ⟨Or.inl (by assumption),(Option.some.inj h).symm⟩))
 split at h
 · exact Or.inr (Or.inr (Or.inl ⟨Or.inr (Or.inl (by assumption)),(Option.some.inj h).symm⟩))
 split at h
 · exact Or.inr (Or.inr (Or.inl ⟨Or.inr (Or.inr (Or.inl (by assumption))),(Option.some.inj h).symm⟩))
 split at h
 · exact Or.inr (Or.inr (Or.inl ⟨Or.inr (Or.inr (Or.inr (by assumption))),(Option.some.inj h).symm⟩))
 split at h
 · exact Or.inr (Or.inr (Or.inr (Or.inl ⟨by assumption,(Option.some.inj h).symm⟩)))
 split at h
 · exact Or.inr (Or.inr (Or.inr (Or.inr (Or.inl ⟨by assumption,(Option.some.inj h).symm⟩))))
 split at h
 · exact Or.inr (Or.inr (Or.inr (Or.inr (Or.inr ⟨by assumption,(Option.some.inj h).symm⟩))))
 · cases h
theorem lay_free {v fs:List UInt8} (h:layV v = some fs):(32:UInt8) ∉ v /\ v ≠ []:=by
 rcases lay_cases h with ⟨rfl,-⟩ | ⟨rfl,-⟩ | ⟨rfl | rfl | rfl | rfl,-⟩ | ⟨rfl,-⟩ | ⟨rfl,-⟩ | ⟨rfl,-⟩ <;> exact ⟨by decide,by decide⟩
def wraL:List UInt8:=[119,114,97,112,112,101,100]
def keyL:List UInt8:=[107,101,121,101,100]
def wordF (f:Int):List UInt8:=if f = 1 then wraL else if f = 2 then keyL else []
def fmtW (w:List UInt8):Int:=if w = wraL then 1 else if w = keyL then 2 else 0
theorem fmt_word {f:Int} (h:wordF f ≠ []):fmtW (wordF f) = f /\ (32:UInt8) ∉ wordF f:=by
 unfold wordF at h ⊢
 split
 · rename_i h1; subst h1; exact ⟨by decide,by decide⟩
 · split
   · rename_i h1 h2; subst h2; exact ⟨by decide,by decide⟩
   · rename_i h1 h2
     rw [if_neg h1,if_neg h2] at h
     exact absurd rfl h
theorem word_len (f:Int):(wordF f).length <= 7:=by
 unfold wordF
 split
 · decide
 · split
   · decide
   · exact Nat.zero_le _
def okN (c:UInt8):Bool:=decide (33 <= c.toNat) && decide (c.toNat <= 126)
def nameO (l:List UInt8):Bool:=decide (1 <= l.length) && (decide (l.length <= 100) && l.all okN)
theorem name_free {l:List UInt8} (h:nameO l = true):(32:UInt8) ∉ l:=by
 unfold nameO at h
 simp only [Bool.and_eq_true] at h
 intro h9
 have h8:=List.all_eq_true.1 h.2.2 32 h9
 exact absurd h8 (by decide)
def hexW (b:ByteArray):List UInt8:=if b.data.toList = [] then [45] else hx b
theorem hexW_free (b:ByteArray):(32:UInt8) ∉ hexW b:=by
 unfold hexW
 split
 · decide
 · exact Rcd.hex_32 b
theorem un_hexW (b:ByteArray):Dig.unS (hexW b) = b:=by
 unfold hexW
 split
 · rename_i h
   exact ba_ext (by rw [h]; rfl)
 · exact ba_ext (Rcd.unS_hex _)
def wd (s:St) (c:UInt8):List UInt8:=if c = 78 then s.n.data.toList else if c = 79 then s.o.data.toList else if c = 70 then wordF s.f else if c = 66 then hexW s.b else s.t.data.toList
def okF (R:ByteArray -> Bool) (fs:List UInt8) (s:St) (c:UInt8):Bool :=
 if c = 78 then nameO s.n.data.toList else if c = 79 then nameO s.o.data.toList else if c = 70 then decide (wordF s.f ≠ []) else if c = 66 then (decide (s.b.data.toList ≠ []) || fs.contains 84) else R s.t
def keep (fs:List UInt8) (c:UInt8) (x:ByteArray):ByteArray:=if fs.contains c = true then x else E0
def used (s:St) (fs:List UInt8):St:=⟨s.v,keep fs 78 s.n,keep fs 79 s.o,if fs.contains 70 = true then s.f else 0,keep fs 84 s.t,keep fs 66 s.b⟩
def eB (fs:List UInt8) (c:UInt8) (x:ByteArray):Bool:=fs.contains c || decide (x.data.toList = [])
def usedO (s:St) (fs:List UInt8):Bool:=eB fs 78 s.n && (eB fs 79 s.o && ((fs.contains 70 || decide (s.f = 0)) && (eB fs 84 s.t && eB fs 66 s.b)))
theorem keep_iff (fs:List UInt8) (c:UInt8) (x:ByteArray):eB fs c x = true ↔ keep fs c x = x:=by
 unfold eB keep
 cases fs.contains c
 · rw [Bool.false_or,decide_eq_true_eq,if_neg (by decide)]
   exact ⟨fun h => ba_ext (by rw [h]; rfl),fun h => by rw [<- h]; rfl⟩
 · simp
theorem used_iff (s:St) (fs:List UInt8):usedO s fs = true ↔ used s fs = s:=by
 unfold usedO
 simp only [Bool.and_eq_true,keep_iff]
 obtain ⟨v,n,o,f,t,b⟩:=s
 have hf:(fs.contains 70 || decide (f = 0)) = true ↔ (if fs.contains 70 = true then f else 0) = f:=by
   cases fs.contains 70
   · rw [Bool.false_or,decide_eq_true_eq,if_neg (by decide)]
     exact ⟨fun h => h.symm,fun h => h.symm⟩
   · simp
 constructor
 · rintro ⟨h1,h2,h3,h4,h5⟩
   show St.mk v (keep fs 78 n) (keep fs 79 o) _ (keep fs 84 t) (keep fs 66 b) = _
   rw [show keep fs 78 n = n from h1,show keep fs 79 o = o from h2,hf.1 h3,show keep fs 84 t = t from h4,show keep fs 66 b = b from h5]
 · intro h
   exact ⟨congrArg St.n h,congrArg St.o h,hf.2 (congrArg St.f h),congrArg St.t h,congrArg St.b h⟩
def lineW (s:St) (fs:List UInt8):List UInt8:=Sp.joinC 32 (s.v.data.toList :: fs.map (wd s))
def textV (R:ByteArray -> Bool) (s:St):List UInt8:=match layV s.v.data.toList with
 | none => []
 | some fs => if fs.all (okF R fs s) = true /\ usedO s fs = true /\ (lineW s fs).length <= 40000 then lineW s fs else []
theorem text_ok {R:ByteArray -> Bool} {s:St} (h:textV R s ≠ []):∃ fs,layV s.v.data.toList = some fs /\ fs.all (okF R fs s) = true /\ used s fs = s /\ (lineW s fs).length <= 40000 /\ textV R s = lineW s fs:=by
 unfold textV at h ⊢
 cases hl:layV s.v.data.toList with
 | none => rw [hl] at h; exact absurd rfl h
 | some fs =>
   rw [hl] at h
   dsimp only at h ⊢
   by_cases h1:fs.all (okF R fs s) = true /\ usedO s fs = true /\ (lineW s fs).length <= 40000
   · rw [if_pos h1]
     exact ⟨fs,rfl,h1.1,(used_iff s fs).1 h1.2.1,h1.2.2,rfl⟩
   · rw [if_neg h1] at h
     exact absurd rfl h
theorem splN_join (c:UInt8):∀ (ws:List (List UInt8)),ws ≠ [] -> (∀ w ∈ ws.dropLast,c ∉ w) -> Sp.splN c ws.length (Sp.joinC c ws) = ws
 | [],h,_ => absurd rfl h
 | [w],_,_ => by
   show Sp.splN c 1 w = [w]
   unfold Sp.splN
   have h1:0 < (Sp.pcs c w).length:=List.length_pos_iff.2 (Sp.pcs_ne c w)
   show [] ++ (if 0 < (Sp.pcs c w).length then [Sp.joinC c (Sp.pcs c w)] else []) = [w]
   rw [if_pos h1,Sp.join_pcs]
   rfl
 | w :: v :: ws,_,h => by
   have ih:=splN_join c (v :: ws) (List.cons_ne_nil _ _) (fun x hx => h x (by rw [List.dropLast_cons_of_ne_nil (List.cons_ne_nil _ _)]; exact List.mem_cons_of_mem _ hx))
   rw [Sp.joinC]
   show Sp.splN c (ws.length + 2) (w ++ c :: Sp.joinC c (v :: ws)) = _
   rw [Sp.splN_hit c _ _ _ (h w (by rw [List.dropLast_cons_of_ne_nil (List.cons_ne_nil _ _)]; exact List.mem_cons_self ..))]
   exact congrArg _ ih
theorem splN_few (c:UInt8) (n:Nat) (ws:List (List UInt8)) (h0:ws ≠ []) (h:∀ w ∈ ws,c ∉ w) (hn:ws.length <= n):Sp.splN c n (Sp.joinC c ws) = ws:=by
 rw [Sp.splN_all c n _ (by rw [Sp.pcs_join c ws h0 h]; exact hn),Sp.pcs_join c ws h0 h]
def setF (s:St) (c:UInt8) (p:ByteArray):St :=
 if c = 78 then { s with n:=p } else if c = 79 then { s with o:=p } else if c = 70 then { s with f:=fmtW p.data.toList } else if c = 66 then { s with b:=Dig.unS p.data.toList } else if c = 84 then { s with t:=p } else s
def foldS (s:St) (l:List (UInt8 × ByteArray)):St:=l.foldl (fun s cp => setF s cp.1 cp.2) s
def headP (line:List UInt8):List UInt8 × List UInt8:=match Sp.splN 32 2 line with
 | [a,b] => (a,b)
 | [a] => (a,[])
 | _ => ([],[])
def partsP (fs rest:List UInt8):List (List UInt8):=if fs = [] then [] else Sp.splN 32 fs.length rest
def layD (v:List UInt8):List UInt8:=(layV v).getD []
def candP (line:List UInt8):St:=foldS ⟨bs (headP line).1,E0,E0,0,E0,E0⟩ ((layD (headP line).1).zip ((partsP (layD (headP line).1) (headP line).2).map bs))
def candR (line:List UInt8):St :=
 let w:=Sp.splN 32 5 line ++ [[],[],[],[]]
 let v:=w.getD 0 []
 if v = putL ∨ v = addL then ⟨bs v,bs (w.getD 1 []),E0,fmtW (w.getD 2 []),bs (w.getD 4 []),Dig.unS (w.getD 3 [])⟩
 else if v = getL ∨ v = expL ∨ v = droL ∨ v = cheL then ⟨bs v,bs (w.getD 1 []),E0,0,E0,E0⟩
 else if v = movL then ⟨bs v,bs (w.getD 1 []),bs (w.getD 2 []),0,E0,E0⟩
 else if v = rekL then ⟨bs v,E0,E0,0,E0,Dig.unS (w.getD 1 [])⟩
 else ⟨bs v,E0,E0,0,E0,E0⟩
theorem bs_l (b:ByteArray):bs b.data.toList = b:=ba_ext (list_bs _)
theorem bs_eq {l:List UInt8} {b:ByteArray} (h:b.data.toList = l):bs l = b:=by rw [<- h,bs_l]
theorem head_join (v:List UInt8) (ws:List (List UInt8)) (h:(32:UInt8) ∉ v):headP (Sp.joinC 32 (v :: ws)) = (v,Sp.joinC 32 ws):=by
 unfold headP
 cases ws with
 | nil =>
   show (match Sp.splN 32 2 v with | [a,b] => (a,b) | [a] => (a,[]) | _ => ([],[])) = (v,[])
   rw [Sp.splN_miss 32 1 v h]
 | cons w ws =>
   rw [Sp.joinC,Sp.splN_hit 32 0 v _ h]
   have e:Sp.splN 32 (0 + 1) (Sp.joinC 32 (w :: ws)) = [Sp.joinC 32 (w :: ws)]:=by
     unfold Sp.splN
     have h1:0 < (Sp.pcs 32 (Sp.joinC 32 (w :: ws))).length:=List.length_pos_iff.2 (Sp.pcs_ne 32 _)
     show [] ++ (if 0 < (Sp.pcs 32 (Sp.joinC 32 (w :: ws))).length then [Sp.joinC 32 (Sp.pcs 32 (Sp.joinC 32 (w :: ws)))] else []) = _
     rw [if_pos h1,Sp.join_pcs]
     rfl
   rw [e]
theorem parts_join (fs:List UInt8) (ws:List (List UInt8)) (hl:ws.length = fs.length) (h:∀ w ∈ ws.dropLast,(32:UInt8) ∉ w):partsP fs (Sp.joinC 32 ws) = ws:=by
 unfold partsP
 by_cases h0:fs = []
 · subst h0
   rw [if_pos rfl,List.length_eq_zero_iff.1 hl]
 · rw [if_neg h0,<- hl]
   exact splN_join 32 ws (fun h9 => h0 (List.length_eq_zero_iff.1 (by rw [<- hl,h9]; rfl))) h
end Scr
namespace Scr
open Rcd (hx)
theorem setN (s:St) (p:ByteArray):setF s 78 p = { s with n:=p }:=rfl
theorem setO (s:St) (p:ByteArray):setF s 79 p = { s with o:=p }:=rfl
theorem setFm (s:St) (p:ByteArray):setF s 70 p = { s with f:=fmtW p.data.toList }:=rfl
theorem setB (s:St) (p:ByteArray):setF s 66 p = { s with b:=Dig.unS p.data.toList }:=rfl
theorem setT (s:St) (p:ByteArray):setF s 84 p = { s with t:=p }:=rfl
theorem wdB (s:St):wd s 66 = hexW s.b:=rfl
theorem okFN (R:ByteArray -> Bool) (fs:List UInt8) (s:St):okF R fs s 78 = nameO s.n.data.toList:=rfl
theorem okFO (R:ByteArray -> Bool) (fs:List UInt8) (s:St):okF R fs s 79 = nameO s.o.data.toList:=rfl
theorem okFF (R:ByteArray -> Bool) (fs:List UInt8) (s:St):okF R fs s 70 = decide (wordF s.f ≠ []):=rfl
theorem okFB (R:ByteArray -> Bool) (fs:List UInt8) (s:St):okF R fs s 66 = (decide (s.b.data.toList ≠ []) || fs.contains 84):=rfl
theorem okFT (R:ByteArray -> Bool) (fs:List UInt8) (s:St):okF R fs s 84 = R s.t:=rfl
theorem cand_lay (s:St) (fs:List UInt8) (hl:layV s.v.data.toList = some fs) (h:∀ w ∈ (fs.map (wd s)).dropLast,(32:UInt8) ∉ w):candP (lineW s fs) = foldS ⟨s.v,E0,E0,0,E0,E0⟩ (fs.zip ((fs.map (wd s)).map bs)):=by
 unfold candP lineW
 rw [head_join _ _ (lay_free hl).1]
 dsimp only
 rw [show layD s.v.data.toList = fs by unfold layD; rw [hl]; rfl,parts_join fs _ (by rw [List.length_map]) h,bs_l]
theorem candP_text (R:ByteArray -> Bool) (s:St) (fs:List UInt8) (hl:layV s.v.data.toList = some fs) (ho:fs.all (okF R fs s) = true) (hu:used s fs = s):candP (lineW s fs) = s:=by
 obtain ⟨v,n,o,f,t,b⟩:=s
 have un:keep fs 78 n = n:=congrArg St.n hu
 have uo:keep fs 79 o = o:=congrArg St.o hu
 have uf:(if fs.contains 70 = true then f else 0) = f:=congrArg St.f hu
 have ut:keep fs 84 t = t:=congrArg St.t hu
 have ub:keep fs 66 b = b:=congrArg St.b hu
 clear hu
 rcases lay_cases hl with ⟨h1,rfl⟩ | ⟨h1,rfl⟩ | ⟨h1,rfl⟩ | ⟨h1,rfl⟩ | ⟨h1,rfl⟩ | ⟨h1,rfl⟩
 · simp only [List.all_cons,List.all_nil,Bool.and_true,Bool.and_eq_true,okFN,okFF,decide_eq_true_eq] at ho
   rw [cand_lay _ _ hl (by
     intro w hw
     have e:(([78,70,66,84]:List UInt8).map (wd ⟨v,n,o,f,t,b⟩)).dropLast = [n.data.toList,wordF f,hexW b]:=rfl
     rw [e] at hw
     simp only [List.mem_cons,List.not_mem_nil,or_false] at hw
     rcases hw with rfl | rfl | rfl
     · exact name_free ho.1
     · exact (fmt_word ho.2.1).2
     · exact hexW_free b)]
   show (⟨v,bs n.data.toList,E0,fmtW (bs (wordF f)).data.toList,bs t.data.toList,Dig.unS (bs (hexW b)).data.toList⟩:St) = _
   rw [bs_l,bs_l,list_bs,list_bs,un_hexW,(fmt_word ho.2.1).1,show E0 = o from uo]
 · simp only [List.all_cons,List.all_nil,Bool.and_true,Bool.and_eq_true,okFN,okFF,decide_eq_true_eq] at ho
   rw [cand_lay _ _ hl (by
     intro w hw
     have e:(([78,70,66]:List UInt8).map (wd ⟨v,n,o,f,t,b⟩)).dropLast = [n.data.toList,wordF f]:=rfl
     rw [e] at hw
     simp only [List.mem_cons,List.not_mem_nil,or_false] at hw
     rcases hw with rfl | rfl
     · exact name_free ho.1
     · exact (fmt_word ho.2.1).2)]
   show (⟨v,bs n.data.toList,E0,fmtW (bs (wordF f)).data.toList,E0,Dig.unS (bs (hexW b)).data.toList⟩:St) = _
   rw [bs_l,list_bs,list_bs,un_hexW,(fmt_word ho.2.1).1]
   rw [<- show E0 = o from uo,<- show E0 = t from ut]
 · rw [cand_lay _ _ hl (by intro w hw; cases hw)]
   show (⟨v,bs n.data.toList,E0,0,E0,E0⟩:St) = _
   rw [bs_l]
   show St.mk v n E0 0 E0 E0 = St.mk v n o f t b
   rw [<- show E0 = o from uo,<- show (0:Int) = f from uf,<- show E0 = t from ut,<- show E0 = b from ub]
 · simp only [List.all_cons,List.all_nil,Bool.and_true,Bool.and_eq_true,okFN] at ho
   rw [cand_lay _ _ hl (by
     intro w hw
     have e:(([78,79]:List UInt8).map (wd ⟨v,n,o,f,t,b⟩)).dropLast = [n.data.toList]:=rfl
     rw [e] at hw
     rw [List.mem_singleton.1 hw]
     exact name_free ho.1)]
   show (⟨v,bs n.data.toList,bs o.data.toList,0,E0,E0⟩:St) = _
   rw [bs_l,bs_l,<- show (0:Int) = f from uf,<- show E0 = t from ut,<- show E0 = b from ub]
 · rw [cand_lay _ _ hl (by intro w hw; cases hw)]
   show (⟨v,E0,E0,0,E0,Dig.unS (bs (hexW b)).data.toList⟩:St) = _
   rw [list_bs,un_hexW,<- show E0 = n from un,<- show E0 = o from uo,<- show (0:Int) = f from uf,<- show E0 = t from ut]
 · rw [cand_lay _ _ hl (by intro w hw; cases hw)]
   show (⟨v,E0,E0,0,E0,E0⟩:St) = _
   rw [<- show E0 = n from un,<- show E0 = o from uo,<- show (0:Int) = f from uf,<- show E0 = t from ut,<- show E0 = b from ub]
theorem candR_text (R:ByteArray -> Bool) (s:St) (fs:List UInt8) (hl:layV s.v.data.toList = some fs) (ho:fs.all (okF R fs s) = true) (hu:used s fs = s):candR (lineW s fs) = s:=by
 obtain ⟨v,n,o,f,t,b⟩:=s
 have hf:=(lay_free hl).1
 have un:keep fs 78 n = n:=congrArg St.n hu
 have uo:keep fs 79 o = o:=congrArg St.o hu
 have uf:(if fs.contains 70 = true then f else 0) = f:=congrArg St.f hu
 have ut:keep fs 84 t = t:=congrArg St.t hu
 have ub:keep fs 66 b = b:=congrArg St.b hu
 clear hu
 rcases lay_cases hl with ⟨h1,rfl⟩ | ⟨h1,rfl⟩ | ⟨h1,rfl⟩ | ⟨h1,rfl⟩ | ⟨h1,rfl⟩ | ⟨h1,rfl⟩
 · simp only [List.all_cons,List.all_nil,Bool.and_true,Bool.and_eq_true,okFN,okFF,decide_eq_true_eq] at ho
   have e:Sp.splN 32 5 (lineW ⟨v,n,o,f,t,b⟩ [78,70,66,84]) = [v.data.toList,n.data.toList,wordF f,hexW b,t.data.toList] :=
     splN_join 32 [v.data.toList,n.data.toList,wordF f,hexW b,t.data.toList] (List.cons_ne_nil _ _) (by
       intro w hw
       rw [show ([v.data.toList,n.data.toList,wordF f,hexW b,t.data.toList]:List (List UInt8)).dropLast = [v.data.toList,n.data.toList,wordF f,hexW b] from rfl] at hw
       simp only [List.mem_cons,List.not_mem_nil,or_false] at hw
       rcases hw with rfl | rfl | rfl | rfl
       · exact hf
       · exact name_free ho.1
       · exact (fmt_word ho.2.1).2
       · exact hexW_free b)
   unfold candR
   rw [e]
   have h2:v.data.toList = putL:=h1
   show (if v.data.toList = putL ∨ v.data.toList = addL then (⟨bs v.data.toList,bs n.data.toList,E0,fmtW (wordF f),bs t.data.toList,Dig.unS (hexW b)⟩:St) else _) = _
   rw [if_pos (Or.inl h2),bs_l,bs_l,bs_l,un_hexW,(fmt_word ho.2.1).1,show E0 = o from uo]
 · simp only [List.all_cons,List.all_nil,Bool.and_true,Bool.and_eq_true,okFN,okFF,decide_eq_true_eq] at ho
   have e:Sp.splN 32 5 (lineW ⟨v,n,o,f,t,b⟩ [78,70,66]) = [v.data.toList,n.data.toList,wordF f,hexW b] :=
     splN_few 32 5 [v.data.toList,n.data.toList,wordF f,hexW b] (List.cons_ne_nil _ _) (by
       intro w hw
       simp only [List.mem_cons,List.not_mem_nil,or_false] at hw
       rcases hw with rfl | rfl | rfl | rfl
       · exact hf
       · exact name_free ho.1
       · exact (fmt_word ho.2.1).2
       · exact hexW_free b) (by simp)
   unfold candR
   rw [e]
   have h2:v.data.toList = addL:=h1
   show (if v.data.toList = putL ∨ v.data.toList = addL then (⟨bs v.data.toList,bs n.data.toList,E0,fmtW (wordF f),bs [],Dig.unS (hexW b)⟩:St) else _) = _
   rw [if_pos (Or.inr h2),bs_l,bs_l,un_hexW,(fmt_word ho.2.1).1]
   rw [<- show E0 = o from uo,<- show E0 = t from ut]
   rfl
 · simp only [List.all_cons,List.all_nil,Bool.and_true,okFN] at ho
   have e:Sp.splN 32 5 (lineW ⟨v,n,o,f,t,b⟩ [78]) = [v.data.toList,n.data.toList] :=
     splN_few 32 5 [v.data.toList,n.data.toList] (List.cons_ne_nil _ _) (by
       intro w hw
       simp only [List.mem_cons,List.not_mem_nil,or_false] at hw
       rcases hw with rfl | rfl
       · exact hf
       · exact name_free ho) (by simp)
   unfold candR
   rw [e]
   have h2:¬ (v.data.toList = putL ∨ v.data.toList = addL):=by
     have h1':v.data.toList = getL ∨ v.data.toList = expL ∨ v.data.toList = droL ∨ v.data.toList = cheL:=h1
     rcases h1' with h1' | h1' | h1' | h1' <;> rw [h1'] <;> decide
   have h3:v.data.toList = getL ∨ v.data.toList = expL ∨ v.data.toList = droL ∨ v.data.toList = cheL:=h1
   show (if v.data.toList = putL ∨ v.data.toList = addL then (⟨bs v.data.toList,bs n.data.toList,E0,fmtW [],bs [],Dig.unS []⟩:St) else if v.data.toList = getL ∨ v.data.toList = expL ∨ v.data.toList = droL ∨ v.data.toList = cheL then (⟨bs v.data.toList,bs n.data.toList,E0,0,E0,E0⟩:St) else _) = _
   rw [if_neg h2,if_pos h3,bs_l,bs_l,<- show E0 = o from uo,<- show (0:Int) = f from uf,<- show E0 = t from ut,<- show E0 = b from ub]
 · simp only [List.all_cons,List.all_nil,Bool.and_true,Bool.and_eq_true,okFN,okFO] at ho
   have e:Sp.splN 32 5 (lineW ⟨v,n,o,f,t,b⟩ [78,79]) = [v.data.toList,n.data.toList,o.data.toList] :=
     splN_few 32 5 [v.data.toList,n.data.toList,o.data.toList] (List.cons_ne_nil _ _) (by
       intro w hw
       simp only [List.mem_cons,List.not_mem_nil,or_false] at hw
       rcases hw with rfl | rfl | rfl
       · exact hf
       · exact name_free ho.1
       · exact name_free ho.2) (by simp)
   have h4:v.data.toList = movL:=h1
   have e2:candR (lineW ⟨v,n,o,f,t,b⟩ [78,79]) = ⟨bs v.data.toList,bs n.data.toList,bs o.data.toList,0,E0,E0⟩:=by
     unfold candR
     rw [e]
     show (if v.data.toList = putL ∨ v.data.toList = addL then _ else if v.data.toList = getL ∨ v.data.toList = expL ∨ v.data.toList = droL ∨ v.data.toList = cheL then _ else if v.data.toList = movL then (⟨bs v.data.toList,bs n.data.toList,bs o.data.toList,0,E0,E0⟩:St) else _) = _
     rw [if_neg (by rw [h4]; decide),if_neg (by rw [h4]; decide),if_pos h4]
   rw [e2,bs_l,bs_l,bs_l,<- show (0:Int) = f from uf,<- show E0 = t from ut,<- show E0 = b from ub]
 · have e:Sp.splN 32 5 (lineW ⟨v,n,o,f,t,b⟩ [66]) = [v.data.toList,hexW b] :=
     splN_few 32 5 [v.data.toList,hexW b] (List.cons_ne_nil _ _) (by
       intro w hw
       simp only [List.mem_cons,List.not_mem_nil,or_false] at hw
       rcases hw with rfl | rfl
       · exact hf
       · exact hexW_free b) (by simp)
   have h4:v.data.toList = rekL:=h1
   have e2:candR (lineW ⟨v,n,o,f,t,b⟩ [66]) = ⟨bs v.data.toList,E0,E0,0,E0,Dig.unS (hexW b)⟩:=by
     unfold candR
     rw [e]
     show (if v.data.toList = putL ∨ v.data.toList = addL then _ else if v.data.toList = getL ∨ v.data.toList = expL ∨ v.data.toList = droL ∨ v.data.toList = cheL then _ else if v.data.toList = movL then _ else if v.data.toList = rekL then (⟨bs v.data.toList,E0,E0,0,E0,Dig.unS (hexW b)⟩:St) else _) = _
     rw [if_neg (by rw [h4]; decide),if_neg (by rw [h4]; decide),if_neg (by rw [h4]; decide),if_pos h4]
   rw [e2,bs_l,un_hexW,<- show E0 = n from un,<- show E0 = o from uo,<- show (0:Int) = f from uf,<- show E0 = t from ut]
 · have e:Sp.splN 32 5 (lineW ⟨v,n,o,f,t,b⟩ []) = [v.data.toList] :=
     splN_few 32 5 [v.data.toList] (List.cons_ne_nil _ _) (by
       intro w hw
       rw [List.mem_singleton.1 hw]
       exact hf) (by simp)
   have h4:v.data.toList = lisL:=h1
   have e2:candR (lineW ⟨v,n,o,f,t,b⟩ []) = ⟨bs v.data.toList,E0,E0,0,E0,E0⟩:=by
     unfold candR
     rw [e]
     show (if v.data.toList = putL ∨ v.data.toList = addL then _ else if v.data.toList = getL ∨ v.data.toList = expL ∨ v.data.toList = droL ∨ v.data.toList = cheL then _ else if v.data.toList = movL then _ else if v.data.toList = rekL then _ else (⟨bs v.data.toList,E0,E0,0,E0,E0⟩:St)) = _
     rw [if_neg (by rw [h4]; decide),if_neg (by rw [h4]; decide),if_neg (by rw [h4]; decide),if_neg (by rw [h4]; decide)]
   rw [e2,bs_l,<- show E0 = n from un,<- show E0 = o from uo,<- show (0:Int) = f from uf,<- show E0 = t from ut,<- show E0 = b from ub]
def parsV (R:ByteArray -> Bool) (C:List UInt8 -> St) (line:List UInt8):St × Int :=
 if 40000 < line.length then (noS,4) else if line ≠ [] /\ textV R (C line) = line then (C line,0) else (noS,5)
theorem pars_same (R:ByteArray -> Bool) (line:List UInt8):parsV R candR line = parsV R candP line:=by
 unfold parsV
 split
 · rfl
 · by_cases h1:line ≠ [] /\ textV R (candP line) = line
   · obtain ⟨fs,hl,ho,hu,-,ht⟩:=text_ok (R:=R) (s:=candP line) (by rw [h1.2]; exact h1.1)
     have e:candR line = candP line:=by
       have h3:=candR_text R _ fs hl ho hu
       rw [<- ht,h1.2] at h3
       exact h3
     rw [e]
   · rw [if_neg h1]
     by_cases h2:line ≠ [] /\ textV R (candR line) = line
     · exfalso
       obtain ⟨fs,hl,ho,hu,-,ht⟩:=text_ok (R:=R) (s:=candR line) (by rw [h2.2]; exact h2.1)
       have h3:=candP_text R _ fs hl ho hu
       rw [<- ht,h2.2] at h3
       exact h1 ⟨h2.1,by rw [h3]; exact h2.2⟩
     · rw [if_neg h2]
theorem pars_text (R:ByteArray -> Bool) (s:St) (h:textV R s ≠ []):parsV R candP (textV R s) = (s,0):=by
 obtain ⟨fs,hl,ho,hu,hz,ht⟩:=text_ok h
 have h3:=candP_text R _ fs hl ho hu
 rw [<- ht] at h3
 unfold parsV
 rw [if_neg (by rw [ht]; omega),if_pos ⟨h,by rw [h3]⟩,h3]
end Scr
end Go.Proofs.YtcdjfmlanicjlaaGreatDoor
