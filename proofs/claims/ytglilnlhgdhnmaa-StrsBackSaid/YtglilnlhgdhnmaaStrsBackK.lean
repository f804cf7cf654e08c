/- The law StrsBack: what was written is read, what is read is written so again; texts one behind the other are texts; no conditions. -/
import Derived.Test.YtglilnlhgdhnmaaRows
import Derived.WalkKit
import Derived.ProofKit
import Derived.OpenShut
import Derived.Lib.Hide
import Derived.Test.YtglilnlhgdhnmaaSk37
namespace Go.Proofs.Ytglilnlhgdhnmaa.strsBack
open Go.ChangeShapes Go.WideShapes Go.ChangeAt Go.RowKit
open Strs Utf Prn

set_option maxRecDepth 100000 in
set_option maxHeartbeats 8000000 in
theorem core (s t S : ByteArray) (n : Int) (y : Bool) (l1 : (s.size : Int) ≤ 200) (l2 : (t.size : Int) ≤ 200) (hS : s ++ t = S) (A X B : ByteArray) (p q : Bool) (m : Int) (f g h a b : Bool)
    (hf : f = true → h = g) 
    (c1 : Ret 36 #[.bool y] (.string B)) (c2 : Ret 34 #[.string B] (.tuple #[.bool y, .bool true]))
    (c3 : Mak 30 #[.string s, .int .i64 n] (.tuple #[.string A, .bool p])) (c4 : Hid (p = true → Mak 32 #[.string A] (.tuple #[.string s, .int .i64 n, .bool true])))
    (c5 : Mak 32 #[.string s] (.tuple #[.string X, .int .i64 m, .bool q])) (c6 : Hid (q = true → Mak 30 #[.string X, .int .i64 m] (.tuple #[.string s, .bool true])))
    (c9 : Mak 38 #[.string s] (.bool f)) (c10 : Mak 38 #[.string S] (.bool h)) (c11 : Mak 38 #[.string t] (.bool g))
    (c12 : Mak 40 #[.string S] (.bool (a && b))) (c13 : Mak 40 #[.string s] (.bool a)) (c14 : Mak 40 #[.string t] (.bool b)) (w : World) :
    Calls Try.prog 7 #[.string s, .string t, .int .i64 n, .bool y] w fun x w' => x = .returned (.bool true) ∧ Since w w' := by
  have H0 := Lib.hid (Since.refl w)
  have t1 : decide ((200 : Int) < (s.size : Int)) = false := decide_eq_false (by omega)
  have t2 : decide ((200 : Int) < (t.size : Int)) = false := decide_eq_false (by omega)
  have HF := Lib.hid hf
  clear hf
  cases p
  · cases q
    · cases f
      · cases a
        · clear HF c4 c6
          go_enter Try.func7, Try.ntmps7
          go_wp2_with fail
          refine (c1).calls ?_
          go_wp2_with fail
          refine (c2).calls ?_
          go_wp2_with fail
          refine c3.calls H0.out ?_
          intro w1 h1
          have H1 := Lib.hid h1
          clear h1
          go_wp2_with fail
          refine c5.calls H1.out ?_
          intro w2 h2
          have H2 := Lib.hid h2
          clear h2
          go_wp2_with fail
          refine c9.calls H2.out ?_
          intro w3 h3
          have H3 := Lib.hid h3
          clear h3
          go_wp2_with fail
          refine c12.calls H3.out ?_
          intro w4 h4
          have H4 := Lib.hid h4
          clear h4
          go_wp2_with fail
          refine c13.calls H4.out ?_
          intro w5 h5
          have H5 := Lib.hid h5
          clear h5
          go_wp2_with fail
          refine awake_mak.calls H5.out ?_
          intro w6 h6
          have H6 := Lib.hid h6
          clear h6
          go_wp2_with fail
          go_ret
          exact ⟨rfl, H6.out⟩
        · clear HF c4 c6
          go_enter Try.func7, Try.ntmps7
          go_wp2_with fail
          refine (c1).calls ?_
          go_wp2_with fail
          refine (c2).calls ?_
          go_wp2_with fail
          refine c3.calls H0.out ?_
          intro w1 h1
          have H1 := Lib.hid h1
          clear h1
          go_wp2_with fail
          refine c5.calls H1.out ?_
          intro w2 h2
          have H2 := Lib.hid h2
          clear h2
          go_wp2_with fail
          refine c9.calls H2.out ?_
          intro w3 h3
          have H3 := Lib.hid h3
          clear h3
          go_wp2_with fail
          refine c12.calls H3.out ?_
          intro w4 h4
          have H4 := Lib.hid h4
          clear h4
          go_wp2_with fail
          refine c13.calls H4.out ?_
          intro w5 h5
          have H5 := Lib.hid h5
          clear h5
          go_wp2_with fail
          refine c14.calls H5.out ?_
          intro w6 h6
          have H6 := Lib.hid h6
          clear h6
          go_wp2_with fail
          refine awake_mak.calls H6.out ?_
          intro w7 h7
          have H7 := Lib.hid h7
          clear h7
          go_wp2_with fail
          go_ret
          exact ⟨rfl, H7.out⟩
      · cases a
        · obtain rfl := HF.out rfl
          clear HF c4 c6
          go_enter Try.func7, Try.ntmps7
          go_wp2_with fail
          refine (c1).calls ?_
          go_wp2_with fail
          refine (c2).calls ?_
          go_wp2_with fail
          refine c3.calls H0.out ?_
          intro w1 h1
          have H1 := Lib.hid h1
          clear h1
          go_wp2_with fail
          refine c5.calls H1.out ?_
          intro w2 h2
          have H2 := Lib.hid h2
          clear h2
          go_wp2_with fail
          refine c9.calls H2.out ?_
          intro w3 h3
          have H3 := Lib.hid h3
          clear h3
          go_wp2_with fail
          refine c10.calls H3.out ?_
          intro w4 h4
          have H4 := Lib.hid h4
          clear h4
          go_wp2_with fail
          refine c11.calls H4.out ?_
          intro w5 h5
          have H5 := Lib.hid h5
          clear h5
          go_wp2_with fail
          refine c12.calls H5.out ?_
          intro w6 h6
          have H6 := Lib.hid h6
          clear h6
          go_wp2_with fail
          refine c13.calls H6.out ?_
          intro w7 h7
          have H7 := Lib.hid h7
          clear h7
          go_wp2_with fail
          refine awake_mak.calls H7.out ?_
          intro w8 h8
          have H8 := Lib.hid h8
          clear h8
          go_wp2_with fail
          go_ret
          exact ⟨rfl, H8.out⟩
        · obtain rfl := HF.out rfl
          clear HF c4 c6
          go_enter Try.func7, Try.ntmps7
          go_wp2_with fail
          refine (c1).calls ?_
          go_wp2_with fail
          refine (c2).calls ?_
          go_wp2_with fail
          refine c3.calls H0.out ?_
          intro w1 h1
          have H1 := Lib.hid h1
          clear h1
          go_wp2_with fail
          refine c5.calls H1.out ?_
          intro w2 h2
          have H2 := Lib.hid h2
          clear h2
          go_wp2_with fail
          refine c9.calls H2.out ?_
          intro w3 h3
          have H3 := Lib.hid h3
          clear h3
          go_wp2_with fail
          refine c10.calls H3.out ?_
          intro w4 h4
          have H4 := Lib.hid h4
          clear h4
          go_wp2_with fail
          refine c11.calls H4.out ?_
          intro w5 h5
          have H5 := Lib.hid h5
          clear h5
          go_wp2_with fail
          refine c12.calls H5.out ?_
          intro w6 h6
          have H6 := Lib.hid h6
          clear h6
          go_wp2_with fail
          refine c13.calls H6.out ?_
          intro w7 h7
          have H7 := Lib.hid h7
          clear h7
          go_wp2_with fail
          refine c14.calls H7.out ?_
          intro w8 h8
          have H8 := Lib.hid h8
          clear h8
          go_wp2_with fail
          refine awake_mak.calls H8.out ?_
          intro w9 h9
          have H9 := Lib.hid h9
          clear h9
          go_wp2_with fail
          go_ret
          exact ⟨rfl, H9.out⟩
    · cases f
      · cases a
        · have q6 := c6.out rfl
          clear HF c4 c6
          go_enter Try.func7, Try.ntmps7
          go_wp2_with fail
          refine (c1).calls ?_
          go_wp2_with fail
          refine (c2).calls ?_
          go_wp2_with fail
          refine c3.calls H0.out ?_
          intro w1 h1
          have H1 := Lib.hid h1
          clear h1
          go_wp2_with fail
          refine c5.calls H1.out ?_
          intro w2 h2
          have H2 := Lib.hid h2
          clear h2
          go_wp2_with fail
          refine q6.calls H2.out ?_
          intro w3 h3
          have H3 := Lib.hid h3
          clear h3
          go_wp2_with fail
          refine c9.calls H3.out ?_
          intro w4 h4
          have H4 := Lib.hid h4
          clear h4
          go_wp2_with fail
          refine c12.calls H4.out ?_
          intro w5 h5
          have H5 := Lib.hid h5
          clear h5
          go_wp2_with fail
          refine c13.calls H5.out ?_
          intro w6 h6
          have H6 := Lib.hid h6
          clear h6
          go_wp2_with fail
          refine awake_mak.calls H6.out ?_
          intro w7 h7
          have H7 := Lib.hid h7
          clear h7
          go_wp2_with fail
          go_ret
          exact ⟨rfl, H7.out⟩
        · have q6 := c6.out rfl
          clear HF c4 c6
          go_enter Try.func7, Try.ntmps7
          go_wp2_with fail
          refine (c1).calls ?_
          go_wp2_with fail
          refine (c2).calls ?_
          go_wp2_with fail
          refine c3.calls H0.out ?_
          intro w1 h1
          have H1 := Lib.hid h1
          clear h1
          go_wp2_with fail
          refine c5.calls H1.out ?_
          intro w2 h2
          have H2 := Lib.hid h2
          clear h2
          go_wp2_with fail
          refine q6.calls H2.out ?_
          intro w3 h3
          have H3 := Lib.hid h3
          clear h3
          go_wp2_with fail
          refine c9.calls H3.out ?_
          intro w4 h4
          have H4 := Lib.hid h4
          clear h4
          go_wp2_with fail
          refine c12.calls H4.out ?_
          intro w5 h5
          have H5 := Lib.hid h5
          clear h5
          go_wp2_with fail
          refine c13.calls H5.out ?_
          intro w6 h6
          have H6 := Lib.hid h6
          clear h6
          go_wp2_with fail
          refine c14.calls H6.out ?_
          intro w7 h7
          have H7 := Lib.hid h7
          clear h7
          go_wp2_with fail
          refine awake_mak.calls H7.out ?_
          intro w8 h8
          have H8 := Lib.hid h8
          clear h8
          go_wp2_with fail
          go_ret
          exact ⟨rfl, H8.out⟩
      · cases a
        · have q6 := c6.out rfl
          obtain rfl := HF.out rfl
          clear HF c4 c6
          go_enter Try.func7, Try.ntmps7
          go_wp2_with fail
          refine (c1).calls ?_
          go_wp2_with fail
          refine (c2).calls ?_
          go_wp2_with fail
          refine c3.calls H0.out ?_
          intro w1 h1
          have H1 := Lib.hid h1
          clear h1
          go_wp2_with fail
          refine c5.calls H1.out ?_
          intro w2 h2
          have H2 := Lib.hid h2
          clear h2
          go_wp2_with fail
          refine q6.calls H2.out ?_
          intro w3 h3
          have H3 := Lib.hid h3
          clear h3
          go_wp2_with fail
          refine c9.calls H3.out ?_
          intro w4 h4
          have H4 := Lib.hid h4
          clear h4
          go_wp2_with fail
          refine c10.calls H4.out ?_
          intro w5 h5
          have H5 := Lib.hid h5
          clear h5
          go_wp2_with fail
          refine c11.calls H5.out ?_
          intro w6 h6
          have H6 := Lib.hid h6
          clear h6
          go_wp2_with fail
          refine c12.calls H6.out ?_
          intro w7 h7
          have H7 := Lib.hid h7
          clear h7
          go_wp2_with fail
          refine c13.calls H7.out ?_
          intro w8 h8
          have H8 := Lib.hid h8
          clear h8
          go_wp2_with fail
          refine awake_mak.calls H8.out ?_
          intro w9 h9
          have H9 := Lib.hid h9
          clear h9
          go_wp2_with fail
          go_ret
          exact ⟨rfl, H9.out⟩
        · have q6 := c6.out rfl
          obtain rfl := HF.out rfl
          clear HF c4 c6
          go_enter Try.func7, Try.ntmps7
          go_wp2_with fail
          refine (c1).calls ?_
          go_wp2_with fail
          refine (c2).calls ?_
          go_wp2_with fail
          refine c3.calls H0.out ?_
          intro w1 h1
          have H1 := Lib.hid h1
          clear h1
          go_wp2_with fail
          refine c5.calls H1.out ?_
          intro w2 h2
          have H2 := Lib.hid h2
          clear h2
          go_wp2_with fail
          refine q6.calls H2.out ?_
          intro w3 h3
          have H3 := Lib.hid h3
          clear h3
          go_wp2_with fail
          refine c9.calls H3.out ?_
          intro w4 h4
          have H4 := Lib.hid h4
          clear h4
          go_wp2_with fail
          refine c10.calls H4.out ?_
          intro w5 h5
          have H5 := Lib.hid h5
          clear h5
          go_wp2_with fail
          refine c11.calls H5.out ?_
          intro w6 h6
          have H6 := Lib.hid h6
          clear h6
          go_wp2_with fail
          refine c12.calls H6.out ?_
          intro w7 h7
          have H7 := Lib.hid h7
          clear h7
          go_wp2_with fail
          refine c13.calls H7.out ?_
          intro w8 h8
          have H8 := Lib.hid h8
          clear h8
          go_wp2_with fail
          refine c14.calls H8.out ?_
          intro w9 h9
          have H9 := Lib.hid h9
          clear h9
          go_wp2_with fail
          refine awake_mak.calls H9.out ?_
          intro w10 h10
          have H10 := Lib.hid h10
          clear h10
          go_wp2_with fail
          go_ret
          exact ⟨rfl, H10.out⟩
  · cases q
    · cases f
      · cases a
        · have q4 := c4.out rfl
          clear HF c4 c6
          go_enter Try.func7, Try.ntmps7
          go_wp2_with fail
          refine (c1).calls ?_
          go_wp2_with fail
          refine (c2).calls ?_
          go_wp2_with fail
          refine c3.calls H0.out ?_
          intro w1 h1
          have H1 := Lib.hid h1
          clear h1
          go_wp2_with fail
          refine q4.calls H1.out ?_
          intro w2 h2
          have H2 := Lib.hid h2
          clear h2
          go_wp2_with fail
          refine c5.calls H2.out ?_
          intro w3 h3
          have H3 := Lib.hid h3
          clear h3
          go_wp2_with fail
          refine c9.calls H3.out ?_
          intro w4 h4
          have H4 := Lib.hid h4
          clear h4
          go_wp2_with fail
          refine c12.calls H4.out ?_
          intro w5 h5
          have H5 := Lib.hid h5
          clear h5
          go_wp2_with fail
          refine c13.calls H5.out ?_
          intro w6 h6
          have H6 := Lib.hid h6
          clear h6
          go_wp2_with fail
          refine awake_mak.calls H6.out ?_
          intro w7 h7
          have H7 := Lib.hid h7
          clear h7
          go_wp2_with fail
          go_ret
          exact ⟨rfl, H7.out⟩
        · have q4 := c4.out rfl
          clear HF c4 c6
          go_enter Try.func7, Try.ntmps7
          go_wp2_with fail
          refine (c1).calls ?_
          go_wp2_with fail
          refine (c2).calls ?_
          go_wp2_with fail
          refine c3.calls H0.out ?_
          intro w1 h1
          have H1 := Lib.hid h1
          clear h1
          go_wp2_with fail
          refine q4.calls H1.out ?_
          intro w2 h2
          have H2 := Lib.hid h2
          clear h2
          go_wp2_with fail
          refine c5.calls H2.out ?_
          intro w3 h3
          have H3 := Lib.hid h3
          clear h3
          go_wp2_with fail
          refine c9.calls H3.out ?_
          intro w4 h4
          have H4 := Lib.hid h4
          clear h4
          go_wp2_with fail
          refine c12.calls H4.out ?_
          intro w5 h5
          have H5 := Lib.hid h5
          clear h5
          go_wp2_with fail
          refine c13.calls H5.out ?_
          intro w6 h6
          have H6 := Lib.hid h6
          clear h6
          go_wp2_with fail
          refine c14.calls H6.out ?_
          intro w7 h7
          have H7 := Lib.hid h7
          clear h7
          go_wp2_with fail
          refine awake_mak.calls H7.out ?_
          intro w8 h8
          have H8 := Lib.hid h8
          clear h8
          go_wp2_with fail
          go_ret
          exact ⟨rfl, H8.out⟩
      · cases a
        · have q4 := c4.out rfl
          obtain rfl := HF.out rfl
          clear HF c4 c6
          go_enter Try.func7, Try.ntmps7
          go_wp2_with fail
          refine (c1).calls ?_
          go_wp2_with fail
          refine (c2).calls ?_
          go_wp2_with fail
          refine c3.calls H0.out ?_
          intro w1 h1
          have H1 := Lib.hid h1
          clear h1
          go_wp2_with fail
          refine q4.calls H1.out ?_
          intro w2 h2
          have H2 := Lib.hid h2
          clear h2
          go_wp2_with fail
          refine c5.calls H2.out ?_
          intro w3 h3
          have H3 := Lib.hid h3
          clear h3
          go_wp2_with fail
          refine c9.calls H3.out ?_
          intro w4 h4
          have H4 := Lib.hid h4
          clear h4
          go_wp2_with fail
          refine c10.calls H4.out ?_
          intro w5 h5
          have H5 := Lib.hid h5
          clear h5
          go_wp2_with fail
          refine c11.calls H5.out ?_
          intro w6 h6
          have H6 := Lib.hid h6
          clear h6
          go_wp2_with fail
          refine c12.calls H6.out ?_
          intro w7 h7
          have H7 := Lib.hid h7
          clear h7
          go_wp2_with fail
          refine c13.calls H7.out ?_
          intro w8 h8
          have H8 := Lib.hid h8
          clear h8
          go_wp2_with fail
          refine awake_mak.calls H8.out ?_
          intro w9 h9
          have H9 := Lib.hid h9
          clear h9
          go_wp2_with fail
          go_ret
          exact ⟨rfl, H9.out⟩
        · have q4 := c4.out rfl
          obtain rfl := HF.out rfl
          clear HF c4 c6
          go_enter Try.func7, Try.ntmps7
          go_wp2_with fail
          refine (c1).calls ?_
          go_wp2_with fail
          refine (c2).calls ?_
          go_wp2_with fail
          refine c3.calls H0.out ?_
          intro w1 h1
          have H1 := Lib.hid h1
          clear h1
          go_wp2_with fail
          refine q4.calls H1.out ?_
          intro w2 h2
          have H2 := Lib.hid h2
          clear h2
          go_wp2_with fail
          refine c5.calls H2.out ?_
          intro w3 h3
          have H3 := Lib.hid h3
          clear h3
          go_wp2_with fail
          refine c9.calls H3.out ?_
          intro w4 h4
          have H4 := Lib.hid h4
          clear h4
          go_wp2_with fail
          refine c10.calls H4.out ?_
          intro w5 h5
          have H5 := Lib.hid h5
          clear h5
          go_wp2_with fail
          refine c11.calls H5.out ?_
          intro w6 h6
          have H6 := Lib.hid h6
          clear h6
          go_wp2_with fail
          refine c12.calls H6.out ?_
          intro w7 h7
          have H7 := Lib.hid h7
          clear h7
          go_wp2_with fail
          refine c13.calls H7.out ?_
          intro w8 h8
          have H8 := Lib.hid h8
          clear h8
          go_wp2_with fail
          refine c14.calls H8.out ?_
          intro w9 h9
          have H9 := Lib.hid h9
          clear h9
          go_wp2_with fail
          refine awake_mak.calls H9.out ?_
          intro w10 h10
          have H10 := Lib.hid h10
          clear h10
          go_wp2_with fail
          go_ret
          exact ⟨rfl, H10.out⟩
    · cases f
      · cases a
        · have q4 := c4.out rfl
          have q6 := c6.out rfl
          clear HF c4 c6
          go_enter Try.func7, Try.ntmps7
          go_wp2_with fail
          refine (c1).calls ?_
          go_wp2_with fail
          refine (c2).calls ?_
          go_wp2_with fail
          refine c3.calls H0.out ?_
          intro w1 h1
          have H1 := Lib.hid h1
          clear h1
          go_wp2_with fail
          refine q4.calls H1.out ?_
          intro w2 h2
          have H2 := Lib.hid h2
          clear h2
          go_wp2_with fail
          refine c5.calls H2.out ?_
          intro w3 h3
          have H3 := Lib.hid h3
          clear h3
          go_wp2_with fail
          refine q6.calls H3.out ?_
          intro w4 h4
          have H4 := Lib.hid h4
          clear h4
          go_wp2_with fail
          refine c9.calls H4.out ?_
          intro w5 h5
          have H5 := Lib.hid h5
          clear h5
          go_wp2_with fail
          refine c12.calls H5.out ?_
          intro w6 h6
          have H6 := Lib.hid h6
          clear h6
          go_wp2_with fail
          refine c13.calls H6.out ?_
          intro w7 h7
          have H7 := Lib.hid h7
          clear h7
          go_wp2_with fail
          refine awake_mak.calls H7.out ?_
          intro w8 h8
          have H8 := Lib.hid h8
          clear h8
          go_wp2_with fail
          go_ret
          exact ⟨rfl, H8.out⟩
        · have q4 := c4.out rfl
          have q6 := c6.out rfl
          clear HF c4 c6
          go_enter Try.func7, Try.ntmps7
          go_wp2_with fail
          refine (c1).calls ?_
          go_wp2_with fail
          refine (c2).calls ?_
          go_wp2_with fail
          refine c3.calls H0.out ?_
          intro w1 h1
          have H1 := Lib.hid h1
          clear h1
          go_wp2_with fail
          refine q4.calls H1.out ?_
          intro w2 h2
          have H2 := Lib.hid h2
          clear h2
          go_wp2_with fail
          refine c5.calls H2.out ?_
          intro w3 h3
          have H3 := Lib.hid h3
          clear h3
          go_wp2_with fail
          refine q6.calls H3.out ?_
          intro w4 h4
          have H4 := Lib.hid h4
          clear h4
          go_wp2_with fail
          refine c9.calls H4.out ?_
          intro w5 h5
          have H5 := Lib.hid h5
          clear h5
          go_wp2_with fail
          refine c12.calls H5.out ?_
          intro w6 h6
          have H6 := Lib.hid h6
          clear h6
          go_wp2_with fail
          refine c13.calls H6.out ?_
          intro w7 h7
          have H7 := Lib.hid h7
          clear h7
          go_wp2_with fail
          refine c14.calls H7.out ?_
          intro w8 h8
          have H8 := Lib.hid h8
          clear h8
          go_wp2_with fail
          refine awake_mak.calls H8.out ?_
          intro w9 h9
          have H9 := Lib.hid h9
          clear h9
          go_wp2_with fail
          go_ret
          exact ⟨rfl, H9.out⟩
      · cases a
        · have q4 := c4.out rfl
          have q6 := c6.out rfl
          obtain rfl := HF.out rfl
          clear HF c4 c6
          go_enter Try.func7, Try.ntmps7
          go_wp2_with fail
          refine (c1).calls ?_
          go_wp2_with fail
          refine (c2).calls ?_
          go_wp2_with fail
          refine c3.calls H0.out ?_
          intro w1 h1
          have H1 := Lib.hid h1
          clear h1
          go_wp2_with fail
          refine q4.calls H1.out ?_
          intro w2 h2
          have H2 := Lib.hid h2
          clear h2
          go_wp2_with fail
          refine c5.calls H2.out ?_
          intro w3 h3
          have H3 := Lib.hid h3
          clear h3
          go_wp2_with fail
          refine q6.calls H3.out ?_
          intro w4 h4
          have H4 := Lib.hid h4
          clear h4
          go_wp2_with fail
          refine c9.calls H4.out ?_
          intro w5 h5
          have H5 := Lib.hid h5
          clear h5
          go_wp2_with fail
          refine c10.calls H5.out ?_
          intro w6 h6
          have H6 := Lib.hid h6
          clear h6
          go_wp2_with fail
          refine c11.calls H6.out ?_
          intro w7 h7
          have H7 := Lib.hid h7
          clear h7
          go_wp2_with fail
          refine c12.calls H7.out ?_
          intro w8 h8
          have H8 := Lib.hid h8
          clear h8
          go_wp2_with fail
          refine c13.calls H8.out ?_
          intro w9 h9
          have H9 := Lib.hid h9
          clear h9
          go_wp2_with fail
          refine awake_mak.calls H9.out ?_
          intro w10 h10
          have H10 := Lib.hid h10
          clear h10
          go_wp2_with fail
          go_ret
          exact ⟨rfl, H10.out⟩
        · have q4 := c4.out rfl
          have q6 := c6.out rfl
          obtain rfl := HF.out rfl
          clear HF c4 c6
          go_enter Try.func7, Try.ntmps7
          go_wp2_with fail
          refine (c1).calls ?_
          go_wp2_with fail
          refine (c2).calls ?_
          go_wp2_with fail
          refine c3.calls H0.out ?_
          intro w1 h1
          have H1 := Lib.hid h1
          clear h1
          go_wp2_with fail
          refine q4.calls H1.out ?_
          intro w2 h2
          have H2 := Lib.hid h2
          clear h2
          go_wp2_with fail
          refine c5.calls H2.out ?_
          intro w3 h3
          have H3 := Lib.hid h3
          clear h3
          go_wp2_with fail
          refine q6.calls H3.out ?_
          intro w4 h4
          have H4 := Lib.hid h4
          clear h4
          go_wp2_with fail
          refine c9.calls H4.out ?_
          intro w5 h5
          have H5 := Lib.hid h5
          clear h5
          go_wp2_with fail
          refine c10.calls H5.out ?_
          intro w6 h6
          have H6 := Lib.hid h6
          clear h6
          go_wp2_with fail
          refine c11.calls H6.out ?_
          intro w7 h7
          have H7 := Lib.hid h7
          clear h7
          go_wp2_with fail
          refine c12.calls H7.out ?_
          intro w8 h8
          have H8 := Lib.hid h8
          clear h8
          go_wp2_with fail
          refine c13.calls H8.out ?_
          intro w9 h9
          have H9 := Lib.hid h9
          clear h9
          go_wp2_with fail
          refine c14.calls H9.out ?_
          intro w10 h10
          have H10 := Lib.hid h10
          clear h10
          go_wp2_with fail
          refine awake_mak.calls H10.out ?_
          intro w11 h11
          have H11 := Lib.hid h11
          clear h11
          go_wp2_with fail
          go_ret
          exact ⟨rfl, H11.out⟩
set_option maxRecDepth 100000 in
set_option maxHeartbeats 4000000 in
theorem core_big (s t : ByteArray) (n : Int) (y : Bool) (hb : 200 < s.size ∨ 200 < t.size) (w : World) :
    Calls Try.prog 7 #[.string s, .string t, .int .i64 n, .bool y] w fun x w' => x = .returned (.bool true) ∧ Since w w' := by
  have H0 := Lib.hid (Since.refl w)
  by_cases h_s : 200 < s.size
  · have t_s : decide ((200 : Int) < (s.size : Int)) = true := decide_eq_true (by omega)
    clear hb h_s
    go_enter Try.func7, Try.ntmps7
    go_wp2_with fail
    refine awake_mak.calls H0.out ?_
    intro w1 h1
    have H1 := Lib.hid h1
    clear h1
    go_wp2_with fail
    go_ret
    exact ⟨rfl, H1.out⟩
  · have t_s : decide ((200 : Int) < (s.size : Int)) = false := decide_eq_false (by omega)
    have t_t : decide ((200 : Int) < (t.size : Int)) = true := decide_eq_true (by omega)
    clear hb h_s
    go_enter Try.func7, Try.ntmps7
    go_wp2_with fail
    refine awake_mak.calls H0.out ?_
    intro w1 h1
    have H1 := Lib.hid h1
    clear h1
    go_wp2_with fail
    go_ret
    exact ⟨rfl, H1.out⟩
theorem prn_app (l m : List UInt8) : prnB (l ++ m) = (prnB l && prnB m) := List.all_append
set_option maxRecDepth 100000 in
theorem walk (s t : ByteArray) (n : Int) (y : Bool) (_w0 : s.size ≤ maxLen) (_w1 : t.size ≤ maxLen) (_w2 : (Lit.int .i64 n).wf = true) (w : World) :
    Calls Try.prog 7 #[.string s, .string t, .int .i64 n, .bool y] w fun e w' => e = .returned (.bool true) ∧ Below w.heap.size w w' := by
  by_cases hb : 200 < s.size ∨ 200 < t.size
  · exact core_big s t n y hb w
  · have hz : (s ++ t).size ≤ 1000000 := by rw [ByteArray.size_append]; omega
    have c5 := unbits_mak s (by omega)
    refine core s t _ n y (by omega) (by omega) rfl _ _ _ _ _ _ (utfB s.data.toList) (utfB t.data.toList) (utfB (s ++ t).data.toList) (prnB s.data.toList) (prnB t.data.toList) ?_ (bool_ret y) ?_ (bits_mak s n (by omega)) (Lib.hid fun hp => ?_) c5 (Lib.hid fun hq => ?_) (utf_mak s (by omega) _ rfl) (utf_mak _ hz _ rfl) (utf_mak t (by omega) _ rfl)
      (printable_mak _ hz _ (by rw [app_list, prn_app])) (printable_mak s (by omega) _ rfl) (printable_mak t (by omega) _ rfl) w
    · intro h
      rw [app_list]
      exact utf_app _ _ _ (Nat.le_refl _) h
    · have h := unbool_ret (if y then ⟨#[255]⟩ else ⟨#[0]⟩)
      cases y
      · rw [decide_eq_false (show ¬ (if false = true then (⟨#[255]⟩ : ByteArray) else ⟨#[0]⟩) = sYes by decide), decide_eq_true (show (if false = true then (⟨#[255]⟩ : ByteArray) else ⟨#[0]⟩) = sYes ∨ (if false = true then (⟨#[255]⟩ : ByteArray) else ⟨#[0]⟩) = sNo by decide)] at h
        exact h
      · rw [decide_eq_true (show (if true = true then (⟨#[255]⟩ : ByteArray) else ⟨#[0]⟩) = sYes by decide), decide_eq_true (show (if true = true then (⟨#[255]⟩ : ByteArray) else ⟨#[0]⟩) = sYes ∨ (if true = true then (⟨#[255]⟩ : ByteArray) else ⟨#[0]⟩) = sNo by decide)] at h
        exact h
    · have hk : BitsOk s n := of_decide_eq_true hp
      rw [if_pos hk]
      have hr : restS (bitsS s n) = s := by
        apply ba_ext
        unfold restS
        rw [ext_list, bitsS_size]
        unfold bitsS
        rw [list_bs, List.drop_succ_cons, List.drop_zero, List.take_of_length_le (by have : s.data.toList.length = s.size := rfl; omega)]
      have hh : (headN (bitsS s n) : Int) = n := by
        obtain ⟨h0, h7, _⟩ := hk
        unfold headN bitsS
        rw [list_bs, List.headD_cons, UInt8.toNat_ofNat']
        omega
      have hu : UnbOk (bitsS s n) := ⟨by rw [bitsS_size]; omega, by rw [hr, hh]; exact hk⟩
      have h := unbits_mak (bitsS s n) (by rw [bitsS_size]; omega)
      unfold unbT at h
      rw [if_pos hu, if_pos hu, decide_eq_true hu, hr, hh] at h
      exact h
    · have hu : UnbOk s := of_decide_eq_true hq
      rw [if_pos hu, if_pos hu]
      have h := bits_mak (restS s) (headN s : Int) (by rw [restS_size]; omega)
      rw [if_pos hu.2, decide_eq_true hu.2] at h
      have e : bitsS (restS s) (headN s : Int) = s := by
        apply ba_ext
        unfold bitsS restS headN
        rw [list_bs, ext_list]
        have hl : s.data.toList.length = s.size := rfl
        obtain ⟨c, l, hc⟩ : ∃ c l, s.data.toList = c :: l := by
          cases hx : s.data.toList with
          | nil => rw [hx] at hl; have := hu.1; simp at hl; omega
          | cons c l => exact ⟨c, l, rfl⟩
        rw [hc] at hl ⊢
        rw [List.headD_cons, List.drop_succ_cons, List.drop_zero, List.take_of_length_le (by simp at hl; omega), Int.toNat_natCast, UInt8.ofNat_toNat]
      rw [e] at h
      exact h

set_option maxRecDepth 100000 in
theorem own : ownKnob Try.prog.godebug = none := by kernel_rfl

set_option maxRecDepth 100000 in
theorem lifted (os : Os) (started : os.Started) (H : Type) (enc : TypeId × Value → H) :
    ReturnsInHanded {} Try.checked os 7 .any (Rows.strsBackSpec.pre6 enc Try.prog Try.f7 Rows.strsBackRow.domain false) (Rows.strsBackSpec.post enc Try.prog Try.f7 false true false false) := by
  refine returnsInHanded_of_change (C := Try.checked) own started (by kernel_rfl) Try.func7
    (ChangeSpec.witness6 (enc := enc) (C := Try.checked) false ⟨#[], #[.string ⟨#[]⟩, .string ⟨#[]⟩, .int .i64 0, .bool false], []⟩ 8 (by kernel_rfl) (by kernel_rfl) (by kernel_rfl) (by kernel_rfl)) ?_
  intro W base args ds gs before hval0 hW hcnd _
  have hval : ∀ (j : Nat) t v, Try.f7.params[j]? = some t → args[j]? = some v → Value.okWide Try.prog W .any base t v := hval0
  have hW' := hW
  obtain ⟨p, q, hA0, hV, rfl, hfz, hnd⟩ := hW
  have hA : DataW.TrodAll enc Try.prog W 0 (fun _ => true) true Try.f7.params.toList args.toList ds p := hA0
  rw [Try.params7] at hA hval
  obtain ⟨v0, vs0, d0, ds0, p0, q0, hargs, rfl, rfl, h0, r0⟩ := trodAll_cons hA
  obtain ⟨v1, vs1, d1, ds1, p1, q1, rfl, rfl, rfl, h1, r1⟩ := trodAll_cons r0
  obtain ⟨v2, vs2, d2, ds2, p2, q2, rfl, rfl, rfl, h2, r2⟩ := trodAll_cons r1
  obtain ⟨v3, vs3, d3, ds3, p3, q3, rfl, rfl, rfl, h3, r3⟩ := trodAll_cons r2
  obtain ⟨rfl, rfl, rfl⟩ := trodAll_nil r3
  obtain rfl : args = #[v0, v1, v2, v3] := by cases args; simp_all
  obtain ⟨rfl, rfl⟩ := trodVars_none hV
  obtain ⟨a0, rfl, rfl, rfl, w0⟩ := Go.ChangeMaps.open_string Try.underlying9 (hval 0 9 v0 rfl rfl) h0
  obtain ⟨a1, rfl, rfl, rfl, w1⟩ := Go.ChangeMaps.open_string Try.underlying9 (hval 1 9 v1 rfl rfl) h1
  obtain ⟨a2, rfl, rfl, rfl, w2⟩ := open_int Try.underlying3 (hval 2 3 v2 rfl rfl) h2
  obtain ⟨a3, rfl, rfl, rfl⟩ := open_bool Try.underlying4 (hval 3 4 v3 rfl rfl) h3
  clear hA0 hval0
  simp only [List.append_nil] at hW'
  refine (walk a0 a1 a2 a3 w0 w1 w2 W).mono fun e W' ⟨he, hg⟩ => ?_
  subst he
  exact ⟨_, rfl, _, _, _, _, _, [], hW', (trodAll_cons_mk (shut_bool Try.underlying4 _) trodAll_mk0), (trodAll_cons_mk (Go.ChangeMaps.shut_string Try.underlying9 w0) (trodAll_cons_mk (Go.ChangeMaps.shut_string Try.underlying9 w1) (trodAll_cons_mk (shut_int Try.underlying3 w2) (trodAll_cons_mk (shut_bool Try.underlying4 _) trodAll_mk0)))), rfl, hg.frame _, fun h => by cases h⟩

set_option maxRecDepth 100000 in
theorem over : Rows.strsBackRow.holds Try.pinned (OpenSpec.ofChange Rows.strsBackSpec) :=
  OpenClaim.holds_of_wide 7 Try.f7 rfl rfl rfl rfl rfl rfl rfl ⟨rfl, rfl, rfl, rfl, rfl⟩ rfl rfl rfl rfl rfl (by kernel_rfl) Try.func7 (by kernel_rfl)
    (of_decide_eq_true (by kernel_rfl)) (by unfold Func.isWrapper; first | (rw [if_pos (by decide +kernel)]; kernel_rfl) | (rw [if_neg (by decide +kernel)]; exact ⟨rfl, rfl⟩))
    (fun os started H enc _ => lifted os started H enc)

theorem proved : Rows.StrsBackSaid :=
  over

end Go.Proofs.Ytglilnlhgdhnmaa.strsBack
