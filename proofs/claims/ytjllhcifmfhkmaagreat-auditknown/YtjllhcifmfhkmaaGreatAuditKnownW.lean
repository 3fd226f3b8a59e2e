import Derived.Test.YtjllhcifmfhkmaaGreatGp
import Derived.WalkKit
import Derived.ProofKit
import Derived.OpenShut
import Derived.ShutString
import Derived.ChangeOld
import Derived.Below
namespace Go.Proofs.YtjllhcifmfhkmaaGreat.auditKnown
open Go.ChangeShapes Go.WideShapes Go.ChangeAt Go.RowKit
open Go.Proofs.YtjllhcifmfhkmaaGreat.Oct
set_option linter.unusedVariables false
theorem oa_zero:oaE (List.replicate (8*256) 0)=8:=by
 have h:=im_zero 8;have h0:=h.pg 0 (by omega);have h1:=h.pg 1 (by omega)
 have hx:opX (List.replicate (8*256) 0)=8:=by
  unfold opX chE;rw [h0,h1,if_pos ⟨de_zero,de_zero⟩]
 unfold oaE;rw [hx];decide
set_option maxHeartbeats 4000000 in
set_option maxRecDepth 100000 in
theorem walk (X:BuildC) (w:World):
  Calls Tryz.prog 3 #[] w fun e w'=>e=.returned (.bool true)∧Below w.heap.size w w':=by
 go_enter Tryz.func3,Tryz.ntmps3
 go_wp2_with fail
 refine (awake12 X w).mono ?_;rintro e w1 ⟨rfl,hb1⟩;have CN:=new_yes 8 w1 (by omega) (by omega);rw [show (((8:Nat)):Int)=8 from rfl] at CN;have HB1:Hid (Below w.heap.size w w1):=hb1;clear hb1;go_wp2_with fail
 refine CN.mono ?_;clear CN;rintro e w2 ⟨p,F,rfl,hdv,hb2,hF⟩;have CO:=aopen_new (N:=8) hdv (by rw [List.length_replicate]);have HB2:Hid (Below w.heap.size w w2∧∀k,F k→w.heap.size≤k):=⟨HB1.out.trans (hb2.mono HB1.out.size),fun k hk=>Nat.le_trans HB1.out.size (hF k hk)⟩;clear hdv hb2 hF;go_wp2_with fail
 refine CO.mono ?_;clear CO;rintro e w3 ⟨k,FD',⟨-,-,st3⟩,⟨h0,-⟩|⟨-,rfl⟩⟩
 ·rw [oa_zero] at h0;cases h0
 rw [rpt0_lit]
 have HB3:Hid (Below w.heap.size w (w3.alloc (.cells #[.int .i64 0,.int .i64 0,.int .i64 0,.int .i64 0,.int .i64 0,.int .i64 0,.int .i64 0,.int .i64 0,.int .i64 0,.slice none 0 0,.slice none 0 0,.slice none 0 0,.slice none 0 0] 33))):=by
  have hb3:Below w.heap.size w w3:=HB2.out.1.trans ((st3.1.mono HB2.out.1.size (fun _ _ h=>h)).below HB2.out.2);exact hb3.alloc hb3.size _
 clear st3;go_wp2_with fail
 refine (aopen_nil _).mono ?_;rintro e w5 ⟨rfl,hb5⟩;rw [rpt0_lit]
 have HB5:Hid (Below w.heap.size w (w5.alloc (.cells #[.int .i64 0,.int .i64 0,.int .i64 0,.int .i64 0,.int .i64 0,.int .i64 0,.int .i64 0,.int .i64 0,.int .i64 0,.slice none 0 0,.slice none 0 0,.slice none 0 0,.slice none 0 0] 33))):=by
  have hb:=HB3.out.trans (hb5.mono HB3.out.size);exact hb.alloc hb.size _
 clear hb5;have CW:=fun w6=>awalk_nil w6 ⟨1,8,0,0,0,0,0,0⟩
 unfold spV at CW;go_wp2_with fail
 refine (CW _).mono ?_;clear CW;rintro e w7 ⟨rfl,hb7⟩;rw [rpt0_lit]
 have HB7:Hid (Below w.heap.size w (w7.alloc (.cells #[.int .i64 0,.int .i64 0,.int .i64 0,.int .i64 0,.int .i64 0,.int .i64 0,.int .i64 0,.int .i64 0,.int .i64 0,.slice none 0 0,.slice none 0 0,.slice none 0 0,.slice none 0 0] 33))):=by
  have hb:=HB5.out.trans (hb7.mono HB5.out.size);exact hb.alloc hb.size _
 clear hb7;have CW:=fun w8=>walk_arg (w:=w8) (d:=p) sp0 (by decide)
 unfold spV sp0 at CW;go_wp2_with fail
 refine (CW _).mono ?_;clear CW;rintro e w9 ⟨rfl,hb9⟩;rw [rpt0_lit];have HB9:Hid (Below w.heap.size w w9):=HB7.out.trans (hb9.mono HB7.out.size);clear hb9;go_wp2;go_ret
 exact ⟨rfl,HB9.out.alloc HB9.out.size _⟩
end Go.Proofs.YtjllhcifmfhkmaaGreat.auditKnown
