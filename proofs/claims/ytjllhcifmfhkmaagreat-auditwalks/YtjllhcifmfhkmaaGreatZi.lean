/- Part of a proof. -/
import Derived.Test.YtjllhcifmfhkmaaGreatZf
import Derived.OwnWalk
import Derived.Deep.AppendLies
import Derived.Deep.RegionHeld3
set_option maxHeartbeats 1000000
namespace Go.Proofs.YtjllhcifmfhkmaaGreat.Oct
open Go.RowKit
theorem sealZ_bys {p:Pg} (h:Bys p.body):Bys (sealZ p):=by
 unfold sealZ;split
 ·exact seal_bys h
 ·intro z hz;cases hz
theorem putR_nums {n:Nat} {x:Int} (h1:1≤n) (h8:n≤8) (hf:fitB n x=true):putR (List.replicate n 0) 0 n x=nums n x.toNat:=by
 have hB:putB (List.replicate n 0) 0 n x=true:=by
  unfold putB;rw [hf,Bool.and_true,List.length_replicate];exact ins_yes (p:=0) h1 h8 (by omega)
 unfold putR;rw [if_pos hB,Int.toNat_natCast];rfl
theorem rput_any (n:Nat) (x:Int) (w:World) (h1:1≤n) (h8:n≤8) (hf:fitB n x=true):
  Calls Tryz.prog 66 #[.int .i64 n,.int .i64 x] w fun e w'=>∃g cap,e=.returned (.slice (some ⟨g,0,none⟩) n cap)∧Own w.heap.size w' (.slice (some ⟨g,0,none⟩) n cap) (nums n x.toNat)∧Below w.heap.size w w':=by
 obtain ⟨i0,hi0,hz0,hz1,hz2⟩:=info_parts info5;have HF:Hid (fitB n x=true):=hf;clear hf;go_enter Tryz.func66,Tryz.ntmps66
 go_wp2_with (at_make;refine wpList_make_full _ rfl _ _ 30 rfl w.heap.size 5 i0 (.int .u8 0) 1 Tryz.underlying30 hi0 hz0 hz1 .i64 .i64 _ _ n rfl rfl rfl rfl (by rw [hz2];omega) (by simp [maxLen];omega) (by simp) ?_;intro w1 hown1 hgrow1)
 have ho1:=made_own hown1;have hb1:Below w.heap.size w w1:=(Below.refl w.heap.size w).grown hgrow1 (Nat.le_refl _) (by simp);obtain ⟨hn,hr⟩:=ho1.row' (bys_rep n);have c:=refput_any _ _ _ 0 n x _ hr (by rw [List.length_replicate];omega);rw [List.length_replicate,putR_nums h1 h8 HF.out] at c;refine c.mono ?_;rintro e w2 ⟨v,rfl,ho2,hb2⟩;obtain ⟨g,cap,rfl,_⟩:=own_at ho2 0 (by rw [nums_len];omega);have HO:Hid (Own w1.heap.size w2 (.slice (some ⟨g,0,none⟩) (nums n x.toNat).length cap) (nums n x.toNat)):=ho2;have HB:Hid (Below w.heap.size w w2):=hb1.trans (hb2.mono hb1.size);have HS:Hid (w.heap.size≤w1.heap.size):=hb1.size;clear hown1 hgrow1 ho1 hb1 hn hr c ho2 hb2;go_wp2;go_ret
 exact ⟨g,cap,by rw [nums_len];rfl,by have:=HO.out;rw [nums_len] at this;exact this.weaken HS.out,HB.out⟩
theorem Own.below' {base:Nat} {w w1:World} {v:Value} {zs:List Int} (h:Own base w v zs) (k:Below w.heap.size w w1):Own base w1 v zs:=by
 obtain ⟨h1,h2|⟨g',cap',cur,e,hg',hc,r⟩⟩:=h
 ·exact ⟨h1,.inl h2⟩
 ·refine ⟨h1,.inr ⟨g',cap',cur,e,hg',(k.block g' ?_).trans hc,r⟩⟩;by_cases hlt:g'<w.heap.size
  ·exact hlt
  ·rw [Array.getElem?_eq_none (by omega)] at hc;cases hc
theorem step_append_bytes {ops:Array Oper} {o:Oper} {a:Act} {w:World} {K:Act→World→Prop} {Q:Exit→Act→World→Prop} {E:Prop} (hgd:o.guard=none) (s x:Operand)
  (ho:o.op=.call {callee:=.builtin .append,args:= #[s,x],argTypes:= #[30,30]})
  (base:Nat) (v:Value) (xs:List Int) (hs:a.eval s=v) (hown:Own base w v xs) (ad:Addr) (zs:List Int) (m c:Nat) (hx:a.eval x=.slice (some ad) m c) (hm:m=zs.length) (hm0:0<m)
  (hrow:Row w (some ad) c zs) (hsz:xs.length+zs.length≤1000000) (hbase:base≤w.heap.size) (N:Nat) (hN:N=xs.length+zs.length)
  (h:∀g cap w',Own base w' (.slice (some ⟨g,0,none⟩) N cap) (xs++zs)→Below base w w'→K (a.put o.dst (.slice (some ⟨g,0,none⟩) N cap)) w'):
  if Region.wanted o (yielded ops a.tmps)=true then Oper.wp Tryz.prog o a w K Q else E:=by
 obtain ⟨i0,hi,hz0,hz1,hz2⟩:=info_parts info5;refine step_append_lies w hgd s x 30 ho base 5 i0 (.int .u8 0) 1 1 Tryz.underlying30 hi hz0 hz1 hz2 rfl (by decide) v xs.length _ hs hown ad m c (zs.map (Value.int .u8)) hx (by rw [List.length_map,hm,Nat.mul_one]) (row_news hrow) (one_cells zs) hm0 (by unfold maxLen;omega) (by omega) hbase _ rfl ?_;intro g cap w' h1 h2 _ _;have e:xs.length+m=N:=by omega
 rw [e] at h1 ⊢;refine h g cap w' ?_ ((Below.refl base w).grown h2 hbase (fun j hj=>hown.lt' j hj));unfold Own;rw [List.length_append,List.map_append,←hN];exact h1
theorem rput1 (x:Int) (w:World) (hf:fitB 1 x=true):
  Calls Tryz.prog 66 #[.int .i64 1,.int .i64 x] w fun e w'=>∃g cap,e=.returned (.slice (some ⟨g,0,none⟩) 1 cap)∧Own w.heap.size w' (.slice (some ⟨g,0,none⟩) 1 cap) (nums 1 x.toNat)∧Below w.heap.size w w':=
 rput_any 1 x w (by omega) (by omega) hf
theorem rput2 (x:Int) (w:World) (hf:fitB 2 x=true):
  Calls Tryz.prog 66 #[.int .i64 2,.int .i64 x] w fun e w'=>∃g cap,e=.returned (.slice (some ⟨g,0,none⟩) 2 cap)∧Own w.heap.size w' (.slice (some ⟨g,0,none⟩) 2 cap) (nums 2 x.toNat)∧Below w.heap.size w w':=
 rput_any 2 x w (by omega) (by omega) hf
theorem rput4 (x:Int) (w:World) (hf:fitB 4 x=true):
  Calls Tryz.prog 66 #[.int .i64 4,.int .i64 x] w fun e w'=>∃g cap,e=.returned (.slice (some ⟨g,0,none⟩) 4 cap)∧Own w.heap.size w' (.slice (some ⟨g,0,none⟩) 4 cap) (nums 4 x.toNat)∧Below w.heap.size w w':=
 rput_any 4 x w (by omega) (by omega) hf
theorem rput8 (x:Int) (w:World) (hf:fitB 8 x=true):
  Calls Tryz.prog 66 #[.int .i64 8,.int .i64 x] w fun e w'=>∃g cap,e=.returned (.slice (some ⟨g,0,none⟩) 8 cap)∧Own w.heap.size w' (.slice (some ⟨g,0,none⟩) 8 cap) (nums 8 x.toNat)∧Below w.heap.size w w':=
 rput_any 8 x w (by omega) (by omega) hf
set_option maxRecDepth 20000 in
theorem rseal_walk (p:Pg) (ba:Option Addr) (bc:Nat) (w:World) (hr:Row w ba bc p.body) (hnil:ba=none→bc=0):
  Calls Tryz.prog 62 #[pgV p ba bc] w fun e w'=>∃v,e=.returned (.tuple #[v,.int .i64 (sealE p)])∧Own w.heap.size w' v (sealZ p)∧Below w.heap.size w w':=by
 by_cases ha:argP p=true
 ·by_cases hl:p.body.length≤248
  ·have h:=argP_out ha;have he:sealE p=0:=by unfold sealE;rw [if_pos ha,if_pos hl]
   have hz:sealZ p=sealL p:=by unfold sealZ;rw [if_pos he]
   rw [he,hz];clear he hz ha;have HZ:Hid (sealL p=nums 4 (crc (tailP p)).toNat++tailP p):=show _=_ from rfl
   have HT:Hid (tailP p=nums 1 p.kind.toNat++nums 1 p.level.toNat++nums 2 p.count.toNat++p.body++List.replicate (248-p.body.length) 0):=show _=_ from rfl
   have HTB:Hid (Bys (tailP p)):=tail_bys hr.1;have HTL:Hid ((tailP p).length=252):=tail_len hl;have F1:Hid (fitB 1 p.kind=true):=by show _=_;rw [fit1];exact decide_eq_true (by omega)
   have F2:Hid (fitB 1 p.level=true):=by show _=_;rw [fit1];exact decide_eq_true (by omega)
   have F3:Hid (fitB 2 p.count=true):=by show _=_;rw [fit2];exact decide_eq_true (by omega)
   obtain ⟨Z,hZ⟩:∃Z,sealL p=Z:=⟨_,rfl⟩;obtain ⟨T,hT⟩:∃T,tailP p=T:=⟨_,rfl⟩;rw [hZ,hT] at HZ;rw [hZ];rw [hT] at HT HTB HTL;clear hZ hT;obtain ⟨kd,lv,ct,bd⟩:=p;dsimp only [pgV] at*;obtain ⟨⟨a1,a2⟩,⟨a3,a4⟩,⟨a5,a6⟩⟩:=h;have S0:Hid (Slot (w.alloc (.cells #[.int .i64 kd,.int .i64 lv,.int .i64 ct,.slice ba bd.length bc] 127)) w.heap.size _ _ _ _):=slot_new w _ _ _ _ 127;have HR:Hid (Row (w.alloc (.cells #[.int .i64 kd,.int .i64 lv,.int .i64 ct,.slice ba bd.length bc] 127)) ba bc bd):=hr.below ((Below.refl _ _).alloc (Nat.le_refl _) _);have HB0:Hid (Below w.heap.size w (w.alloc (.cells #[.int .i64 kd,.int .i64 lv,.int .i64 ct,.slice ba bd.length bc] 127))):=(Below.refl _ _).alloc (Nat.le_refl _) _;have hm:=Nat.le_trans hr.2.1 hr.2.2.1;unfold maxLen at hm;go_enter Tryz.func62,Tryz.ntmps62
   go_wp2_with fail
   obtain ⟨W,hW⟩:∃W,w.alloc (.cells #[.int .i64 kd,.int .i64 lv,.int .i64 ct,.slice ba bd.length bc] 127)=W:=⟨_,rfl⟩;rw [hW] at S0 HR HB0 ⊢;have HSZ:Hid (w.heap.size<W.heap.size):=block_lt_of_cell S0.out.1.1;clear hW hr;have tok1:True:=trivial
   go_region_held3 (fun w'=>w'.cell? ⟨w.heap.size,0,none⟩=some (.int .i64 kd)∧w'.cell? ⟨w.heap.size,1,none⟩=some (.int .i64 lv)) (first|exact ⟨S0.out.1.1,S0.out.1.2.1⟩|exact ⟨q3.1.1,q3.1.2.1⟩|exact ⟨q2.1.1,q2.1.2.1⟩|exact ⟨q1.1.1,q1.1.2.1⟩|go_keep) (first
    |(go_at_call 66;have _t:=tok1;refine (rput1 kd W.drew F1.out).mono ?_;rintro e w1 ⟨g1,c1,rfl,ho1,hb1⟩;have HB1:Hid (Below W.heap.size W w1):=(Below.refl W.heap.size W).drew.trans (hb1.mono (Nat.le_refl _));have q1:=S0.out.below HB1.out;have HO1:Hid (Own W.heap.size w1 (.slice (some ⟨g1,0,none⟩) 1 c1) (nums 1 kd.toNat)):=ho1;clear hb1 ho1 tok1 _t)
    |(go_at_call 66;refine (rput1 lv w1 F2.out).mono ?_;rintro e w2 ⟨g2,c2,rfl,ho2,hb2⟩;have q2:=q1.below hb2;have HB2:Hid (Below W.heap.size W w2):=HB1.out.trans (hb2.mono HB1.out.size);have HO2:Hid (Own w1.heap.size w2 (.slice (some ⟨g2,0,none⟩) 1 c2) (nums 1 lv.toNat)):=ho2;have HP2:Hid (Own W.heap.size w2 (.slice (some ⟨g1,0,none⟩) 1 c1) (nums 1 kd.toNat)):=HO1.out.below' hb2;clear hb2 ho2)
    |(have _t:=HP2;clear _t;refine step_append_bytes (by rfl) (.tmp 39) (.tmp 42) (by rfl) W.heap.size _ (nums 1 kd.toNat) (by rfl) HP2.out ⟨g2,0,none⟩ (nums 1 lv.toNat) 1 c2 (by rfl) (by rw [nums_len]) (by omega) (HO2.out.row' (nums_bys _ _)).2 (by rw [nums_len,nums_len];omega) HB2.out.size 2 (by rw [nums_len,nums_len]) ?_;intro g3 c3 w3 ho3 hb3;have q3:=S0.out.below (HB2.out.trans hb3);have HB3:Hid (Below W.heap.size W w3):=HB2.out.trans hb3;have HO3:Hid (Own W.heap.size w3 (.slice (some ⟨g3,0,none⟩) 2 c3) (nums 1 kd.toNat++nums 1 lv.toNat)):=ho3;clear hb3 ho3))
   clear q1 q2 HO1 HP2 HO2 HB1 HB2;obtain ⟨⟨_,_,k2,k3⟩,_⟩:=q3;go_wp2_with fail
   refine (rput2 ct w3 F3.out).mono ?_;rintro e w4 ⟨g4,c4,rfl,ho4,hb4⟩;have HB4:Hid (Below W.heap.size W w4):=HB3.out.trans (hb4.mono HB3.out.size);have HO4:Hid (Own w3.heap.size w4 (.slice (some ⟨g4,0,none⟩) 2 c4) (nums 2 ct.toNat)):=ho4;have HP4:Hid (Own W.heap.size w4 (.slice (some ⟨g3,0,none⟩) 2 c3) (nums 1 kd.toNat++nums 1 lv.toNat)):=HO3.out.below' hb4;clear hb4 ho4 k2 k3;have BY5:Hid (Bys (nums 1 kd.toNat++nums 1 lv.toNat++nums 2 ct.toNat)):=((nums_bys _ _).app (nums_bys _ _)).app (nums_bys _ _);have BY6:Hid (Bys (nums 1 kd.toNat++nums 1 lv.toNat++nums 2 ct.toNat++bd)):=BY5.out.app HR.out.1;have LN5:Hid ((nums 1 kd.toNat++nums 1 lv.toNat++nums 2 ct.toNat).length=4):=show _=_ by simp [nums_len]
   have LN6:Hid ((nums 1 kd.toNat++nums 1 lv.toNat++nums 2 ct.toNat++bd).length=4+bd.length):=show _=_ by rw [List.length_append,LN5.out]
   have HNIL:Hid (ba=none→bc=0):=hnil;have tok5:True:=trivial
   go_wp2_with (first
    |(at_builtin;have _t:=tok5;refine append_row rfl _ _ rfl W.heap.size _ (nums 1 kd.toNat++nums 1 lv.toNat) rfl HP4.out (some ⟨g4,0,none⟩) (nums 2 ct.toNat) c4 (by rw [nums_len];rfl) (HO4.out.row' (nums_bys _ _)).2 (by intro e;cases e) (by simp [nums_len]) HB4.out.size ?_;intro v5 w5 ho5 hb5;obtain ⟨a5,c5,rfl,_⟩:=ho5.row BY5.out;rw [LN5.out] at ho5 ⊢;have HB5:Hid (Below W.heap.size W w5):=HB4.out.trans hb5;have HO5:Hid (Own W.heap.size w5 (.slice a5 4 c5) (nums 1 kd.toNat++nums 1 lv.toNat++nums 2 ct.toNat)):=ho5;have k3:=(S0.out.below HB5.out).1.2.2.2;clear tok5 _t ho5 hb5)
    |(at_builtin;have _t:=HO5;refine append_row rfl _ _ rfl W.heap.size _ (nums 1 kd.toNat++nums 1 lv.toNat++nums 2 ct.toNat) rfl HO5.out ba bd bc rfl (HR.out.below HB5.out) HNIL.out (by rw [LN5.out];omega) HB5.out.size ?_;intro v6 w6 ho6 hb6;have HB6:Hid (Below W.heap.size W w6):=HB5.out.trans hb6;have HO6:Hid (Own W.heap.size w6 v6 (nums 1 kd.toNat++nums 1 lv.toNat++nums 2 ct.toNat++bd)):=ho6;clear _t ho6 hb6 k3))
   obtain ⟨X,hX⟩:∃X,nums 1 kd.toNat++nums 1 lv.toNat++nums 2 ct.toNat++bd=X:=⟨_,rfl⟩;rw [hX] at HO6 BY6 LN6 HT;clear hX BY5 LN5 HO5 HB5 HP4 HO4 HB4 HO3 HB3;obtain ⟨i0,hi,hz0,hz1,hz2⟩:=info_parts info5;go_loopw [4] (fun v wr=>∃k:Nat,k≤248-bd.length∧Own W.heap.size wr v (X++List.replicate k 0)∧Below W.heap.size W wr) (fun v _=>252-(match v with| .slice _ n _=>n|_=>0))
   case atStart=>exact ⟨0,Nat.zero_le _,by rw [List.replicate_zero,List.append_nil];exact HO6.out,HB6.out⟩
   case round=>
    obtain ⟨k,hk,hown,hbel⟩:=hrel;have hlen:(X++List.replicate k 0).length=4+bd.length+k:=by rw [List.length_append,LN6.out,List.length_replicate]
    obtain ⟨a,cap,rfl,hrow⟩:=hown.row (BY6.out.app (bys_rep k));rw [hlen] at hown ⊢;by_cases hlt:k<248-bd.length
    ·have HO:Hid (Own W.heap.size wr (.slice a (4+bd.length+k) cap) (X++List.replicate k 0)):=hown;have HB:Hid (Below W.heap.size W wr):=hbel;have HLEN:Hid ((X++List.replicate k 0).length=4+bd.length+k):=hlen;clear hown hbel hrow hlen;have BO:Hid (Bys [0]):=show Bys [0] from bysOf (by decide)
     go_wp2_with (at_builtin;refine append_row rfl _ _ rfl W.heap.size _ (X++List.replicate k 0) rfl (World.ownsRow.alloc HO.out _) (some ⟨wr.heap.size,0,none⟩) [0] 1 rfl (row_new _ [0] _ BO.out (by simp [maxLen])) (by intro e;cases e) (by rw [HLEN.out];simp;omega) (by have:=HB.out.size;simp;omega) ?_;intro v' w' ho' hb';have HB':Hid (Below W.heap.size W w'):=(HB.out.alloc HB.out.size _).trans hb';have HO':Hid (Own W.heap.size w' v' (X++List.replicate k 0++[0])):=ho';clear ho' hb')
     have HO2:Hid (Own W.heap.size w' v' (X++List.replicate (k+1) 0)):=by
      have:=HO'.out;rw [List.append_assoc,←List.replicate_succ'] at this;exact this
     obtain ⟨a2,c2,hv2,_⟩:=HO2.out.row (BY6.out.app (bys_rep (k+1)));rw [List.length_append,LN6.out,List.length_replicate] at hv2;subst hv2;clear HO';go_wp2;go_roundw
     case rel=>exact ⟨k+1,by omega,HO2.out,HB'.out⟩
     case measure=>simp;omega
    ·have hkk:k=248-bd.length:=by omega
     subst hkk;rw [←HT.out] at hown hrow hlen;have e252:4+bd.length+(248-bd.length)=252:=by omega
     rw [e252] at hown ⊢;have HO:Hid (Own W.heap.size wr (.slice a 252 cap) T):=hown;have HB:Hid (Below W.heap.size W wr):=hbel;have HRW:Hid (Row wr a cap T):=hrow;obtain ⟨b,off,rfl⟩:=hrow.some' (by rw [HTL.out];omega);have bs:=crc_bd HTB.out;have F4:Hid (fitB 4 (crc T)=true):=by show _=_;rw [fit4];exact decide_eq_true (by omega)
     have CC:Hid (∀w1,Below wr.heap.size wr w1→Calls Tryz.prog 42 #[.slice (some ⟨b,off,none⟩) 252 cap] w1 fun e w'=>e=.returned (.int .u32 (crc T))∧Below w1.heap.size w1 w'):=by
      intro w1 hb1;have:=refcrc_any _ _ _ _ (HRW.out.below hb1);rw [HTL.out] at this;exact this.mono fun e w' ⟨h1,h2⟩=>⟨h1,h2▸Below.refl _ _⟩
     have ws:IntKind.i64.wrap (crc T)=crc T:=wrap_i64 bs.1 bs.2;obtain ⟨S,hS⟩:∃S,crc T=S:=⟨_,rfl⟩;rw [hS] at ws F4 CC HZ bs;clear hS hown hbel hrow hlen e252 hk hlt;go_wp2_with fail
     refine (CC.out wr (Below.refl _ _)).mono ?_;rintro e w8 ⟨rfl,hb8⟩;have HB8:Hid (Below W.heap.size W w8):=HB.out.trans (hb8.mono HB.out.size);have HR8:Hid (Row w8 (some ⟨b,off,none⟩) cap T):=HRW.out.below hb8;clear hb8;go_wp2_with fail
     refine (rput4 S w8 F4.out).mono ?_;rintro e w9 ⟨g9,c9,rfl,ho9,hb9⟩;have HB9:Hid (Below W.heap.size W w9):=HB8.out.trans (hb9.mono HB8.out.size);have HR9:Hid (Row w9 (some ⟨b,off,none⟩) cap T):=HR8.out.below hb9;have HO9:Hid (Own W.heap.size w9 (.slice (some ⟨g9,0,none⟩) 4 c9) (nums 4 S.toNat)):=ho9.weaken HB8.out.size;clear hb9 ho9;go_wp2_with (at_builtin;refine append_row rfl _ _ rfl W.heap.size _ (nums 4 S.toNat) rfl HO9.out (some ⟨b,off,none⟩) T cap (by rw [HTL.out];rfl) HR9.out (by intro e;cases e) (by rw [HTL.out,nums_len];omega) HB9.out.size ?_;intro v7 w7 ho7 hb7;have HB7:Hid (Below W.heap.size W w7):=HB9.out.trans hb7;have HO7:Hid (Own W.heap.size w7 v7 (nums 4 S.toNat++T)):=ho7;clear ho7 hb7)
     go_ret2
     exact ⟨_,rfl,by rw [HZ.out];exact HO7.out.weaken (Nat.le_of_lt HSZ.out),HB0.out.trans (HB7.out.mono (Nat.le_of_lt HSZ.out))⟩
  ·have h:=argP_out ha;have he:sealE p=3:=by unfold sealE;rw [if_pos ha,if_neg hl]
   have hz:sealZ p=[]:=by unfold sealZ;rw [he];rfl
   rw [he,hz];clear he hz ha;obtain ⟨kd,lv,ct,bd⟩:=p;dsimp only [pgV] at*;obtain ⟨⟨a1,a2⟩,⟨a3,a4⟩,⟨a5,a6⟩⟩:=h;have hm:=Nat.le_trans hr.2.1 hr.2.2.1;unfold maxLen at hm;have hdb:(248:Int)<bd.length:=by omega
   clear hr hnil hl;go_enter Tryz.func62,Tryz.ntmps62
   go_wp2;go_ret2
   exact ⟨_,rfl,World.ownsRow_nil _ _ _ _,(Below.refl _ _).alloc (Nat.le_refl _) _⟩
 ·have he:sealE p=1:=by unfold sealE;rw [if_neg ha]
  have hz:sealZ p=[]:=by unfold sealZ;rw [he];rfl
  rw [he,hz];have h:¬((1≤p.kind∧p.kind≤5)∧(0≤p.level∧p.level≤255)∧(0≤p.count∧p.count≤65535)):=fun e=>ha (decide_eq_true e)
  clear he hz ha;obtain ⟨kd,lv,ct,bd⟩:=p;dsimp only [pgV] at*;clear hr hnil;have h':kd<1∨(1≤kd∧(5<kd∨(kd≤5∧(lv<0∨(0≤lv∧(255<lv∨(lv≤255∧(ct<0∨(0≤ct∧65535<ct))))))))):=by omega
  clear h;rcases h' with h1|⟨h1,h2|⟨h2,h3|⟨h3,h4|⟨h4,h5|⟨h5,h6⟩⟩⟩⟩⟩
  all_goals
   go_enter Tryz.func62,Tryz.ntmps62
   go_wp2;go_ret2
   exact ⟨_,rfl,World.ownsRow_nil _ _ _ _,(Below.refl _ _).alloc (Nat.le_refl _) _⟩
end Go.Proofs.YtjllhcifmfhkmaaGreat.Oct
