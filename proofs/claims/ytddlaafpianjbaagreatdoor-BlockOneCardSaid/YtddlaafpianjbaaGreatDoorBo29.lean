import Derived.Test.YtddlaafpianjbaaGreatDoorBo28
set_option maxRecDepth 100000
namespace Go.Proofs.YtddlaafpianjbaaGreatDoor
open Go.RowKit
namespace Seal
open Rnd Aes Cmac Kdf Der Cbc
def payOk (p:ByteArray):Prop:=p.size % 16 = 0 /\ 0 < p.size
instance (p:ByteArray):Decidable (payOk p):=by unfold payOk; infer_instance
def joinS (a b:ByteArray):ByteArray:=bs (a.data.toList ++ b.data.toList)
theorem app_joinS (a b:ByteArray):a ++ b = joinS a b:=by
 apply ba_ext
 rw [app_list,joinS,list_bs]
theorem joinS_size (a b:ByteArray):(joinS a b).size = a.size + b.size:=by rw [<- app_joinS,ByteArray.size_append]
def bindK (key top pay:ByteArray):ByteArray:=tagK (derK key 1) (joinS top pay)
theorem bindK_size (key top pay:ByteArray):(bindK key top pay).size = 16:=tagK_size _ _
def cipK (key top pay:ByteArray):ByteArray:=encC (derK key 0) (bindK key top pay) pay
theorem bind_yes (key top pay:ByteArray) (hk:keyOk key) (hp:payOk pay) (hpm:pay.size <= 1000000 /\ top.size + pay.size <= 1000000) (X:ByteArray) (hX:X = bindK key top pay):Mak 58 #[.string key,.string top,.string pay] (.tuple #[.string X,.int .i64 0]):=by
 intro w
 have H0:=lH (Since.refl w)
 have c1:=Der.keys_yes key hk _ _ rfl rfl
 obtain ⟨J,hJ⟩:∃ J,J = joinS top pay:=⟨_,rfl⟩
 have f1:top ++ pay = J:=by rw [hJ,app_joinS]
 have c2:=Cmac.tag_yes (derK key 1) J (derK_ok key hk 1) (by rw [hJ,joinS_size]; exact hpm.2) X (by rw [hX,bindK,hJ])
 generalize derK key 0 = A at c1
 generalize derK key 1 = B at c1 c2
 unfold payOk at hp
 have b1:=some_bytes pay (by omega)
 have b2:=some_bytes_f pay (by omega)
 have g3:(pay.size:Int).tmod 16 = (pay.size:Int) % 16:=Int.tmod_eq_emod_of_nonneg (by omega)
 have t3:(((pay.size:Int) % 16) == 0) = true:=by rw [beq_iff_eq]; omega
 have t4:(((pay.size:Int) % 16) != 0) = false:=by rw [bne_eq_false_iff_eq]; omega
 have t5:((pay.size:Int).tmod 16 == 0) = true:=by rw [g3]; exact t3
 have t6:((pay.size:Int).tmod 16 != 0) = false:=by rw [g3]; exact t4
 have z1:¬ 9223372036854775807 < top.size + pay.size:=by omega
 clear hk hp g3 hX hJ
 go_enter Tryz.func58,Tryz.ntmps58
 go_wp2_with fail
 refine c1.calls H0.out ?_
 intro w1 h1
 have H1:=lH h1
 clear h1
 go_wp2_with fail
 refine c2.calls H1.out ?_
 intro w2 h2
 have H2:=lH h2
 clear h2
 go_wp2_with fail
 go_ret2
 exact ⟨rfl,H2.out⟩
theorem seal_yes (key top pay:ByteArray) (hk:keyOk key) (hp:payOk pay) (hpm:pay.size <= 1000000 /\ top.size + pay.size <= 1000000) (X T:ByteArray) (hX:X = cipK key top pay) (hT:T = bindK key top pay):Mak 28 #[.string key,.string top,.string pay] (.tuple #[.string X,.string T,.int .i64 0]):=by
 intro w
 have H0:=lH (Since.refl w)
 have c1:=bind_yes key top pay hk hp hpm T hT
 have c2:=Der.keys_yes key hk _ _ rfl rfl
 unfold payOk at hp
 have c3:=Cbc.enc_yes (derK key 0) T pay (derK_ok key hk 0) (by rw [hT]; exact bindK_size _ _ _) hp.1 hpm.1 X (by rw [hX,cipK,hT])
 generalize derK key 0 = A at c2 c3
 generalize derK key 1 = B at c2
 clear hk hp hX hT
 go_enter Tryz.func28,Tryz.ntmps28
 go_wp2_with fail
 refine c1.calls H0.out ?_
 intro w1 h1
 have H1:=lH h1
 clear h1
 go_wp2_with fail
 refine c2.calls H1.out ?_
 intro w2 h2
 have H2:=lH h2
 clear h2
 go_wp2_with fail
 refine c3.calls H2.out ?_
 intro w3 h3
 have H3:=lH h3
 clear h3
 go_wp2_with fail
 go_ret3
 exact ⟨rfl,H3.out⟩
end Seal
end Go.Proofs.YtddlaafpianjbaaGreatDoor
