/- Part of a proof. -/
import Derived.Test.YtaijfhadecennabGreatEag
import Derived.Test.YtaijfhadecennabGreatStc
import Derived.Test.YtaijfhadecennabGreatR
import Derived.Deep.Slices
import Derived.ChangeSame
import Derived.ProofKit
open Go.Proofs.Tryz
set_option maxHeartbeats 4000000
namespace Go.Proofs.YtaijfhadecennabGreat.Oct.Sx
open Go.RowKit
theorem opn2 {L:List Int} {N:Nat} (hL:Bys L) (hl:L.length=N*256) (hN:N<=4096) (ho:oaE L=0) (hr:(oaR L).s.r=0):
  ∃S P R2 R3 st fr,chS (pageOf L 0) (pageOf L 1)=S/\chP (pageOf L 0) (pageOf L 1)=P/\chE (pageOf L 0) (pageOf L 1)=0/\S.p=(N:Int)/\S.r=0/\chB L (N+1) S.s (rN L) []=some (R2,st)/\chB L (N+1) S.f R2 []=some (R3,fr)/\fr=usedL R3/\oaR L=⟨S,P,[],[],st,rsB R3 N,S.h⟩/\
   Ld2 N (chQ L (N+1) S.s++chQ L (N+1) S.f) R3/\(0<=S.s/\S.s<N)/\Bys st:=by
 obtain ⟨S,P,R2,R3,st,fr,a1,a2,a3,a4,a5,a6,a7,a8,a9⟩:=KB hL hl hN ho hr;have hok:okS S=true:=by rw [<-a1];exact ch_ok a3
 have hS':=hok;unfold okS fitS ldB at hS';simp only [jN,jQ] at hS';have hs2:S.s=0\/2<=S.s:=by omega
 have hf2:S.f=0\/2<=S.f:=by omega
 have hp:pgN L=N:=by unfold pgN;omega
 exact ⟨S,P,R2,R3,st,fr,a1,a2,a3,a4,a5,a6,a7,a8,a9,ld_two hL hp hN hs2 hf2 a6 a7,by omega,(chB_bys hL _ _ _ _ _ (fun z hz=>by cases hz) a6).1⟩
structure Opd (N n:Nat) (D0:Dv) (r:Rp) (X:St):Prop where
 k:∃k,k<=n+2/\X.D=rdK D0 k
 fr:X.N=N
 L:X.L=[]
 S:X.S=r.s
 pl:X.pl=r.pl
 g:X.g=X.S.g
 sp:X.S.p=(n:Int)
 ld:∃R3,Ld2 n X.C R3/\X.P=ldS (usedL R3) n/\r.pg=rsB R3 n
section
variable {w:World} {d N n:Nat} {Fd:Nat->Prop} {D0:Dv}
theorem Open_oa (h:Dev w d Fd D0) (h8N:8<=N) (h4N:N<=4096) (hn:D0.n=n) (hw:Well D0) (hok:D0.ok) (hops:D0.ops<=999999990) (ho:oaE D0.now=0) (hr:(oaR D0.now).s.r=0):
  Calls prog 9 #[.pointer (some ⟨d,0,none⟩),.int .i64 N] w fun e w'=>∃s X,e=.returned (.tuple #[.pointer (some ⟨s,0,none⟩),.int .i64 0])/\StoO w w' Fd s d X/\Opd N n D0 (oaR D0.now) X:=by
 have h4:=hok.n4;have hnw:=hok.now;rw [hn] at h4 hnw;obtain ⟨S,P,R2,R3,st,fr,a1,a2,a3,a4,a5,a6,a7,a8,a9,a10,_,_⟩:=opn2 hok.bnow hnw h4 ho hr;refine (Open_yes h h8N h4N hn hw hok hops rfl S P a1 a2 a3 a4 a5 a6 a7 a8 a10).mono ?_;rintro e w' ⟨s,k,rfl,hk,hO⟩;refine ⟨s,_,rfl,hO,⟨⟨k,hk,rfl⟩,rfl,rfl,?_,?_,rfl,a4,R3,a10,rfl,?_⟩⟩
 all_goals rw [a9]
end
theorem reopen {D:Dv} {S:Sp} {pl:Nat} {r:Rp} {n N:Nat} {ch:List Int} {X':St} (hJ:Jv D S pl r []) (hn:D.n=n) (hrs:r.s=S) (hX:Opd N n (crashD D ch) (oaR (crashD D ch).now) X'):
  In X'.D X'.N X'.L X'.P X'.S pl X'.C X'.g r []/\X'.pl=(pl:Int)/\X'.D.n=n/\X'.S=S/\(∀k,k<n->X'.P.getD k 0=0\/X'.P.getD k 0=1)/\(∀z,z∈r.pg↔z∈X'.C)/\Well X'.D/\X'.D.ops<=n+2/\X'.D.since=[]:=by
 obtain ⟨⟨k,hk,e1⟩,e2,e3,e4,e5,e6,e7,R3,e8,e9,e10⟩:=hX;obtain ⟨o1,o2⟩:=hJ.crash ch
 have e11:oaR (crashD D ch).now={r with pl:=(pl:Int)}:=by
  rcases o2 with o2|⟨y,hy,_⟩
  ·exact o2
  ·cases hy
 rw [e11] at e4 e5 e10;have hJ2:=hJ.crashed ch
 have hcn:(crashD D ch).n=n:=by
  have h1:=hJ2.ok.sure;have h2:(crashD D ch).sure.length=D.n*256:=(zX ..).trans hJ.ok.sure;omega
 have h8:=hJ.ok.n8;have h4:=hJ.ok.n4;rw [hn] at h8 h4;have hS:X'.S=S:=e4.trans hrs
 have hrc:∀z,z∈r.pg↔z∈X'.C:=fun z=>by
  have:r.pg=rsB R3 n:=e10;rw [this];exact e8.rs z
 have hpi:=e8.inv h8 h4;rw [<-e9] at hpi;have hI:=In.load hJ2 X'.N k (P:=X'.P) (C:=X'.C) (by rw [hcn];exact hpi) (fun z hz=>(hrc z).1 hz) (by rw [hcn,<-hS];exact e7);refine ⟨?_,e5,by rw [e1,uX];exact hcn,hS,fun j hj=>by rw [e9];exact e8.zo j hj,hrc,?_,?_,?_⟩
 ·rw [e6,e3,e1,hS];exact hI
 ·rw [e1];exact (Well.new _:Well (crashD D ch)).mo (rdK_mo _ k)
 ·rw [e1];have:=(vJ (crashD D ch) k).1;have h0:(crashD D ch).ops=0:=rfl;omega
 ·rw [e1];have:=(vJ (crashD D ch) k).2;have h0:(crashD D ch).since=[]:=rfl;rw [h0] at this;exact List.length_eq_zero_iff.1 (Nat.le_zero.1 this)
section
variable {w:World} {B s d n c:Nat} {X:St} {pl:Nat} {r:Rp} {T:List (Sp × Rp)} {last:List Int} {tr:List (List Int)}
theorem Lv.now (h:Lv w B s d n c X pl r [] last tr):oaE X.D.now=0/\oaR X.D.now={r with pl:=(pl:Int)}:=by
 obtain ⟨a,b⟩:=h.i.jv.nowOpen;refine ⟨a,?_⟩;rcases b with b|⟨y,hy,_⟩
 ·exact b
 ·cases hy
theorem Lv.fall (h:Lv w B s d n c X pl r T last tr) (ch:List Int):oaE (crashD X.D ch).now=0/\(oaR (crashD X.D ch).now).s.r=0/\((oaR (crashD X.D ch).now).st=last\/(T≠[]/\(oaR (crashD X.D ch).now).st∈tr)):=by
 obtain ⟨a,b⟩:=h.i.jv.crash ch;refine ⟨a,?_⟩;rcases b with b|⟨y,hy,b⟩
 ·rw [show (crashD X.D ch).now=fallK X.D.sure X.D.since ch X.D.since.length from rfl,b];exact ⟨h.rr,.inl h.st⟩
 ·rw [show (crashD X.D ch).now=fallK X.D.sure X.D.since ch X.D.since.length from rfl,b];exact ⟨(h.tr y hy).1,.inr ⟨fun e=>(by rw [e] at hy;cases hy),(h.tr y hy).2⟩⟩
theorem lvBytes (h:Lv w B s d n c X pl r [] last tr) (hv:LvW n X pl r []) (hB:B<=w.heap.size) (hc:c<=900000):
  Calls prog 11 #[.pointer (some ⟨s,0,none⟩),.int .i64 X.S.s] w fun e w'=>∃g cp X',e=.returned (.tuple #[.slice g last.length cp,.int .i64 0])/\Own w.heap.size w' (.slice g last.length cp) last/\Bys last/\Lv w' B s d n (c+8192) X' pl r [] last tr/\LvW n X' pl r []/\Below B w w'/\X'={X with D:=X'.D,L:=X'.L}:=by
 obtain ⟨F,h1,h2⟩:=h.sto;obtain ⟨o1,o2⟩:=h.now;have hno:=h.i.jv.ok.now;have h4:=h.i.jv.ok.n4;rw [h.dn] at hno h4;obtain ⟨S,P,R2,R3,st,fr,a1,a2,a3,a4,a5,a6,a7,a8,a9,a10,a11,a12⟩:=opn2 h.i.jv.ok.bnow hno h4 o1 (by rw [o2];exact h.rr);rw [o2] at a9;have hS:S=X.S:=by rw [<-hv.rs];exact (congrArg Rp.s a9).symm
 have hst:st=last:=by rw [<-h.st];exact (congrArg Rp.st a9).symm
 have hops:=h.ops;have hsi:=h.since;have hp:pgN X.D.now=n:=by unfold pgN;omega
 have hrN:rN X.D.now=List.replicate n false:=by unfold rN;rw [hp]
 rw [hS] at a6 a11;rw [hrN] at a6;refine (Bytes_any h1 h.i.fi h.i.nd hv.well (by omega) (by omega) X.S.s ⟨a11.1,by rw [h.dn];exact a11.2⟩ (R2,st) (by rw [h.dn];exact a6)).mono ?_;rintro e w' ⟨g,cp,X',F',k,rfl,b1,b2,b3,b4,b5,b6,b7⟩;dsimp only at b1 b2;obtain ⟨c1,c2⟩:=b5.below hB h2;have hac:=b6.ac.ops
 have hI:In X'.D X'.N X'.L X'.P X'.S pl X'.C X'.g r []:=by
  rw [b6.eq];have hfi:=b6.fi;rw [b6.eq] at hfi;exact h.i.acts (m:=0) (jW _) (b6.ac.mono (fun _ e=>e.elim) (jB _)) hfi b6.nd
 have hdn:X'.D.n=n:=b6.ac.n.trans h.dn;refine ⟨g,cp,X',by rw [hst],by rw [<-hst];exact b1,by rw [<-hst];exact b2,⟨⟨F',b4,c2⟩,hI,by rw [b6.eq];exact h.pl,hdn,by omega,by omega,by rw [b6.eq];have:=h.g;show X.g<=_;omega,h.st,h.rr,fun y hy=>by cases hy⟩,⟨hv.well.mo b6.ac.mo,rfl,by rw [b6.eq];exact hv.zo,by rw [b6.eq];exact hv.gs,by rw [b6.eq];exact hv.cl,by rw [b6.eq];exact hv.rs,by rw [b6.eq];exact hv.rc⟩,c1,b6.eq⟩
theorem Lv.free (h:Lv w B s d n c X pl r T last tr) (hv:LvW n X pl r T):X.P.count 0+2+X.C.length=n:=by
 have h1:=h.i.pi;rw [h.dn] at h1;exact h1.free hv.zo
theorem Lv.one (h:Lv w B s d n c X pl r T last tr) (hv:LvW n X pl r T) {k:Nat} (hk:k<n):X.P.getD k 0=if k<2\/(k:Int)∈X.C then 1 else 0:=by
 have h1:=h.i.pi.one k (by rw [h.dn];exact hk);split
 ·next a=>exact h1.2 a
 ·next a=>
  rcases hv.zo k hk with e|e
  ·exact e
  ·exact absurd (h1.1 e) a
theorem reopen_lv (h:Lv w B s d n c X pl r [] last tr) (hv:LvW n X pl r []) {ch:List Int} {N t q:Nat} {w':World} {X2:St} (hs:∃F,Sto w' t q F X2/\∀k,F k->B<=k) (hX:Opd N n (crashD X.D ch) (oaR (crashD X.D ch).now) X2) {c':Nat} (hc1:n+2<=c') (hc2:X.g<=(c':Int)):
  Lv w' B t q n c' X2 pl r [] last []/\LvW n X2 pl r []/\X2.P.count 0=X.P.count 0/\X2.S=X.S:=by
 obtain ⟨a1,a2,a3,a4,a5,a6,a7,a8,a9⟩:=reopen h.i.jv h.dn hv.rs hX;have h4:=h.i.jv.ok.n4;rw [h.dn] at h4;have hg:X2.g=X2.S.g:=hX.g;have hl:Lv w' B t q n c' X2 pl r [] last []:=⟨hs,a1,a2,a3,by omega,by rw [a9];exact jW _,by rw [hg,a4,hv.gs];exact hc2,h.st,h.rr,fun y hy=>by cases hy⟩;have l1:=a1.pi.len;have l2:=h.i.pi.len;rw [a3] at l1;rw [h.dn] at l2
 have hP:X2.P=X.P:=by
  refine yV (by omega) fun i hi=>?_
  have hin:i<n:=by omega
  have e1:=a1.pi.one i (by rw [a3];exact hin);have e2:=h.one hv hin;rw [e2];have hcc:(i:Int)∈X2.C↔(i:Int)∈X.C:=by rw [<-a6,hv.rc]
  rw [hcc] at e1;split
  ·next b=>exact e1.2 b
  ·next b=>
   rcases a5 i hin with e|e
   ·exact e
   ·exact absurd (e1.1 e) b
 have f1:=a1.pi;rw [a3] at f1;have f2:=f1.free a5;have f3:=h.free hv;rw [hP] at f2;exact ⟨hl,⟨a7,rfl,a5,hg.symm,by have:=hv.cl;omega,by rw [a4];exact hv.rs,a6⟩,by rw [hP],a4⟩
end
end Go.Proofs.YtaijfhadecennabGreat.Oct.Sx
namespace Go.Proofs.YtaijfhadecennabGreat.Oct.Sx
open Go.RowKit
section
variable {w:World} {n N:Nat}
theorem fmt_lv {w':World} {B s d:Nat} {X:St} {r:Rp} {L:List Int} (hf:Fmt n N (newD L) X r) (hs:∃F,Sto w' s d F X/\∀k,F k->B<=k):Lv w' B s d n 20 X 0 r [] [] []/\LvW n X 0 r []:=by
 have hS:X.S.r=0:=by rw [hf.S];rfl
 exact ⟨⟨hs,hf.i,hf.pl,hf.dn,by have:=hf.ops;exact jR this (by show 0+10<=20;omega),by rw [hf.since];exact jW _,by rw [hf.g];decide,hf.st,by rw [hf.rs];exact hS,fun y hy=>by cases hy⟩,
  ⟨hf.well,rfl,hf.zo,by rw [hf.S,hf.g];rfl,hf.rp.symm,hf.rs,hf.rc⟩⟩
theorem KZ (h8:8<=n) (h4:n<=4096) (h8N:8<=N) (h4N:N<=4096):Calls prog 17 #[.int .i64 n,.int .i64 N] w fun e w'=>∃s d X r,e=.returned (.pointer (some ⟨s,0,none⟩))/\Fmt n N (newD (List.replicate (n*256) 0)) X r/\Lv w' w.heap.size s d n 20 X 0 r [] [] []/\LvW n X 0 r []/\Below w.heap.size w w':=by
 have hnw:=new_yes n w h8 h4;have hfm:=fun (wx:World) (dx:Nat) (Fx:Nat->Prop) (hd:Dev wx dx Fx (newD (List.replicate (n*256) 0)))=>Format_yes (N:=N) (n:=n) hd h8N h4N (by simp [newD]) (Well.new _) hd.1 (by show 0+5000<=_;omega) (by show 0+5000<=_;omega)
 clear h8 h4 h8N h4N;go_enter func17,ntmps17
 go_wp2_with (first
  |(go_at_call 49;refine hnw.mono ?_;rintro e w1 ⟨d,Fd,rfl,h1,h2,h3⟩
    have hf1:=hfm w1 d Fd h1;have H1:Hid (Below w.heap.size w w1/\∀k,Fd k->w.heap.size<=k):=⟨h2,h3⟩;clear hnw hfm h1 h2 h3)
  |(go_at_call 50;refine hf1.mono ?_;rintro e w2 ⟨s,X,r,rfl,h4,h5⟩
    have H2:Hid (StoO w1 w2 Fd s d X/\Fmt n N (newD (List.replicate (n*256) 0)) X r):=⟨h4,h5⟩;clear hf1 h4 h5))
 go_ret
 obtain ⟨h1,h2⟩:=H1.out;obtain ⟨h3,h4⟩:=H2.out;obtain ⟨F',h5,h6⟩:=h3.out;obtain ⟨h7,h8⟩:=h6.below h1.size h2;obtain ⟨h9,h10⟩:=fmt_lv h4 ⟨F',h5,h8⟩;exact ⟨s,d,X,r,rfl,h4,h9,h10,h1.trans h7⟩
theorem two_row (w:World):Row (w.alloc (.cells #[.int .u8 7,.int .u8 8] 5)) (some ⟨w.heap.size,0,none⟩) 2 [7,8]:=by
 refine ⟨fun z hz=>?_,jB _,by unfold maxLen;decide,.inr ⟨w.heap.size,0,rfl,fun i hi=>?_⟩⟩
 ·rcases List.mem_cons.1 hz with rfl|hz
  ·omega
  ·rw [List.mem_singleton.1 hz];omega
 ·have hi2:i<2:=hi;rw [cell_of_row _ _ _ _ _ (0,0) (heap_alloc_new w _)];obtain rfl|rfl:i=0\/i=1:=by omega
  ·rfl
  ·rfl
theorem field_S6 (a b c d e f g h:Int) (w:World):(Instr.field 26 (.agg #[.int .i64 a,.int .i64 b,.int .i64 c,.int .i64 d,.int .i64 e,.int .i64 f,.int .i64 g,.int .i64 h]) 6).run prog w=.ok (.int .i64 g) w:=by
 kernel_rfl
theorem field_S0 (a b c d e f g h:Int) (w:World):(Instr.field 26 (.agg #[.int .i64 a,.int .i64 b,.int .i64 c,.int .i64 d,.int .i64 e,.int .i64 f,.int .i64 g,.int .i64 h]) 0).run prog w=.ok (.int .i64 a) w:=by
 kernel_rfl
theorem StE.well {w w':World} {B s d n c:Nat} {X:St} {pl:Nat} {r:Rp} {T:List (Sp × Rp)} {last:List Int} {tr:List (List Int)} {zs:List Int} {E:Int} (h:StE w w' B s d n c X pl r T last tr zs E) (hw:Well X.D):Below B w w'/\((E=6/\¬ned zs.length+ned ((n+7)/8)<=X.P.count 0/\Lv w' B s d n c X pl r T last tr)\/
  (E=0/\∃X' r',Lv w' B s d n (c+12000) X' (1-pl) r' [] zs []/\LvW n X' (1-pl) r' []/\X'.g=X.g+1)):=by
 refine ⟨h.1,?_⟩;rcases h.2 with h|⟨_,X',T',_,hb,hm,_⟩|⟨rfl,X',r',a1,a2,a3,a4,a5,a6,a7,a8,a9,-⟩
 ·exact .inl h
 ·exact absurd hb (hw.not_bad hm)
 ·exact .inr ⟨rfl,X',r',a1,⟨hw.mo a2,rfl,a8,a4,a7,a6,a9⟩,a3⟩
set_option maxRecDepth 20000 in
theorem awake13 (w:World):Calls prog 5 #[] w fun e w'=>e=.returned (.bool true)/\Below w.heap.size w w':=by
 have hf6:=field_S6;have hf0:=field_S0;have hfr:=KZ (w:=w) (n:=32) (N:=8) (by decide) (by decide) (by decide) (by decide);go_enter func5,ntmps5
 go_wp2_with (first
  |(go_at_call 17;refine hfr.mono ?_;rintro e w1 ⟨s,d,X,r,rfl,hf,hl,hv,hb⟩
    have H1:Hid (Fmt 32 8 (newD (List.replicate (32*256) 0)) X r/\Lv w1 w.heap.size s d 32 20 X 0 r [] [] []/\LvW 32 X 0 r []/\Below w.heap.size w w1):=⟨hf,hl,hv,hb⟩;clear hfr hf hl hv hb))
 obtain ⟨w1b,hw1b⟩:∃w1b,w1.alloc (.cells #[.int .u8 7,.int .u8 8] 5)=w1b:=⟨_,rfl⟩;have hbb:Below w1.heap.size w1 w1b:=by rw [<-hw1b];exact (Below.refl _ w1).alloc (jB _) _
 have hrow:Row w1b (some ⟨w1.heap.size,0,none⟩) 2 [7,8]:=by rw [<-hw1b];exact two_row w1
 have hlt:w1.heap.size<w1b.heap.size:=by rw [<-hw1b];simp
 rw [hw1b]
 have hcm:Calls prog 21 #[.pointer (some ⟨s,0,none⟩),spV (sup 0 0 0 0),.slice (some ⟨w1.heap.size,0,none⟩) 2 2] w1b fun e w'=>e=.returned (.int .i64 0)/\∃X' r',Below w.heap.size w w'/\Lv w' w.heap.size s d 32 12020 X' 1 r' [] [7,8] []/\LvW 32 X' 1 r' []/\X'.g=2:=by
  obtain ⟨hf,hl,hv,hb⟩:=H1.out;obtain ⟨F,h1,h2⟩:=hl.sto;refine (KS (hl.keep hbb) (h1.below hbb) h2 (some ⟨w1.heap.size,0,none⟩) 2 [7,8] hrow (.inr (fun k hk=>?_)) (by have:=hb.size;have:=hbb.size;omega) (by decide) (by decide)).mono ?_
  ·obtain ⟨x,e,hx⟩:=hk;cases e;subst hx;exact ⟨hlt,fun e=>by have h3:=h1.lt _ e;simp only at h3;omega⟩
  ·rintro e w' ⟨E,rfl,hE⟩;obtain ⟨g1,⟨_,hno,_⟩|⟨rfl,X',r',g2,g3,g4⟩⟩:=hE.well hv.well
   ·have h3:=hl.free hv;rw [hf.cl] at h3
    exact absurd (show ned ([7,8]:List Int).length+ned ((32+7)/8)<=X.P.count 0 by
     have e1:ned ([7,8]:List Int).length=1:=rfl;have e2:ned ((32+7)/8)=1:=rfl;omega) hno
   ·refine ⟨rfl,X',r',hb.trans ((hbb.mono hb.size).trans (g1.mono (jB _))),g2,g3,?_⟩;rw [g4,hf.g];rfl
 unfold spV sup at hcm;have HB:Hid (w.heap.size<=w1b.heap.size):=by have:=H1.out.2.2.2.size;have:=hbb.size;show _<=_;omega
 clear hw1b hbb hrow hlt
 go_wp2_with (first
  |(go_at_call 21;refine hcm.mono ?_;rintro e w2 ⟨rfl,X',r',hb2,hl2,hv2,hg2⟩
    obtain ⟨F2,hs2,hF2⟩:=hl2.sto;have hdv:=kB hs2;obtain ⟨Fd,d1,d2,_⟩:=hs2.dev;have hcr:=crash_any d1 (by have:=hl2.since;omega) none 0 [] (row0 w2);have H2:Hid (Below w.heap.size w w2/\Lv w2 w.heap.size s d 32 12020 X' 1 r' [] [7,8] []/\LvW 32 X' 1 r' []/\X'.g=2):=⟨hb2,hl2,hv2,hg2⟩;clear hcm hb2 hl2 hv2 hg2 hs2 hF2 d1 d2)
  |(go_at_call 20;refine hdv.mono ?_;rintro e w' ⟨rfl,rfl⟩;clear hdv)
  |(go_at_call 22;refine hcr.mono ?_;rintro e w3 ⟨q,Fq,rfl,q1,q2,q3⟩
    have hfa:=H2.out.2.1.fall [];have hop:=Open_oa (N:=8) (n:=32) q1 (by decide) (by decide) (by have h1:=(H2.out.2.1.i.jv.crashed []).ok.sure;have h2:(crashD X'.D []).sure.length=X'.D.n*256:=(zX ..).trans H2.out.2.1.i.jv.ok.sure;have h3:=H2.out.2.1.dn;omega) (Well.new _) (H2.out.2.1.i.jv.crashed []).ok (by show 0<=_;omega) hfa.1 hfa.2.1;have H3:Hid (Below w2.heap.size w2 w3/\∀k,Fq k->w2.heap.size<=k):=⟨q2,q3⟩;clear hcr q1 q2 q3 hfa)
  |(go_at_call 9;refine hop.mono ?_;rintro e w4 ⟨t,X2,rfl,hO,hX⟩
    have H4:Hid (Lv w4 w.heap.size t q 32 25020 X2 1 r' [] [7,8] []/\LvW 32 X2 1 r' []/\X2.S.g=2/\Below w.heap.size w w4):=by
     obtain ⟨h1,h2,h3,h4⟩:=H2.out;obtain ⟨k1,k2⟩:=H3.out;obtain ⟨F',o1,o2⟩:=hO.out;have z1:=h1.size;have z2:=k1.size;obtain ⟨o3,o4⟩:=o2.below (B:=w.heap.size) (by omega) (fun k hk=>by have:=k2 k hk;omega);obtain ⟨r1,r2,_,r4⟩:=reopen_lv h2 h3 ⟨F',o1,o4⟩ hX (c':=25020) (by omega) (by rw [h4];decide);exact ⟨r1,r2,by rw [r4,h3.gs,h4],h1.trans ((k1.mono z1).trans (o3.mono (jB _)))⟩
    obtain ⟨F4,hs4,hF4⟩:=H4.out.1.sto;have hsu:=uS hs4;unfold spV at hsu;clear hop hO hX hs4 hF4)
  |(go_at_call 12;refine hsu.mono ?_;rintro e w5 ⟨rfl,hb5⟩
    have hby:=lvBytes (H4.out.1.keep hb5) H4.out.2.1 (by have:=H4.out.2.2.2.size;have:=hb5.size;omega) (by omega);have H5:Hid (Below w4.heap.size w4 w5):=hb5;clear hsu hb5)
  |(go_at_call 11;refine hby.mono ?_;rintro e w6 ⟨g,cp,X3,rfl,hob,hbb,hl6,hv6,hb6,hX3⟩
    obtain ⟨-,hrw⟩:=hob.row' hbb;obtain ⟨b',off',rfl,hce⟩:=hrw.2.2.2.resolve_left (by decide);have hce2:w6.cell? ⟨b',off'+1,none⟩=some (.int .u8 8):=hce 1 (by decide);have hcp:2<=cp:=hrw.2.1;obtain ⟨F6,hs6,hF6⟩:=hl6.sto;have hsu2:=uS hs6;have hg3:X3.S.g=2:=by rw [hX3];exact H4.out.2.2.1
    unfold spV at hsu2;rw [hg3] at hsu2;have H6:Hid (Below w.heap.size w w6):=H4.out.2.2.2.trans ((H5.out.mono H4.out.2.2.2.size).trans (hb6.mono (jB _)));rw [show ([7,8]:List Int).length=2 from rfl];clear hby hob hbb hl6 hv6 hb6 hX3 hrw hce hs6 hF6 hg3)
  |(go_at_call 12;refine hsu2.mono ?_;rintro e w7 ⟨rfl,hb7⟩
    have H7:Hid (Below w.heap.size w w7):=H6.out.trans (hb7.mono H6.out.size);clear hsu2 hb7))
 go_ret
 exact ⟨rfl,H7.out⟩
end
end Go.Proofs.YtaijfhadecennabGreat.Oct.Sx
namespace Go.Proofs.YtaijfhadecennabGreat.Oct
open Go.RowKit Go.ChangeShapes Go.WideShapes
structure Bx where
 a:Option Addr
 c:Nat
 z:List Int
def noBx:Bx:=⟨none,0,[]⟩
structure BxAt' (w:World) (b o:Nat) (d:Bx):Prop where
 c0:w.cell? ⟨b,o,none⟩=some (.slice d.a d.z.length d.c)
 row:Row w d.a d.c d.z
theorem BxAt'.below {w w':World} {b o:Nat} {d:Bx} (h:BxAt' w b o d) (k:Below w.heap.size w w'):BxAt' w' b o d:=
 ⟨(k.cell (p:=⟨b,o,none⟩) (block_lt_of_cell h.c0)).trans h.c0,h.row.below k⟩
def IsRws (w:World) (a:Option Addr) (cap:Nat) (l:List Bx):Prop:=
 l.length<=cap/\cap<=maxLen/\(l=[]\/∃b off,a=some ⟨b,off,none⟩/\∀i,i<l.length->BxAt' w b (off+i) (l.getD i noBx))
theorem IsRws.below {w w':World} {a:Option Addr} {cap:Nat} {l:List Bx} (h:IsRws w a cap l) (k:Below w.heap.size w w'):IsRws w' a cap l:=by
 obtain ⟨h1,h2,h3⟩:=h;refine ⟨h1,h2,?_⟩;rcases h3 with h3|⟨b,off,e,h4⟩
 ·exact .inl h3
 ·exact .inr ⟨b,off,e,fun i hi=>(h4 i hi).below k⟩
theorem row_lt {w:World} {a:Option Addr} {c:Nat} {zs:List Int} (h:Row w a c zs):zs=[]\/∀x,a=some x->x.block<w.heap.size:=by
 by_cases hz:zs=[]
 ·exact .inl hz
 ·rcases h.2.2.2 with e|⟨b,off,e,hc⟩
  ·exact absurd e hz
  ·refine .inr fun x hx=>?_
   rw [e] at hx;cases hx;have h0:0<zs.length:=List.length_pos_iff.2 hz;exact block_lt_of_cell (hc 0 h0)
theorem cells28r:prog.cellsOf 22=1:=by kernel_rfl
theorem gT {H:Type} {enc:TypeId × Value->H} {w:World} {base fuel:Nat} {held:Bool} {v:Value} {x:DataW H × List MemPlace} (h:DataW.trod enc prog w base (fun _=>true) held fuel 22 [v]=some x):
  ∃a ys cap,v=.slice a ys.length cap/\Row w a cap ys/\(a=none->cap=0):=by
 rcases open_ints underlying22 underlying5 (by kernel_rfl) h with ⟨hcs,_⟩|⟨x,l,c,zs,hcs,_,hl,hm,hz,_,hcell,hwz⟩
 ·simp at hcs;exact ⟨none,[],0,hcs,⟨fun z hz=>by simp at hz,jB _,by simp [maxLen],.inl rfl⟩,fun _=>rfl⟩
 ·simp at hcs;have hr:IsRow .u8 w (some x) l c zs:=.inr ⟨_,rfl,hl,hm,by simpa using hz,hcell,hwz⟩;obtain ⟨ys,h1,h2⟩:=hr.row;exact ⟨some x,ys,c,by rw [hcs,h1],h2,fun e=>by cases e⟩
set_option maxRecDepth 20000 in
theorem open_rws {H:Type} {enc:TypeId × Value->H} {w:World} {base fuel:Nat} {held:Bool} {a:Option Addr} {len cap:Nat} {x:DataW H × List MemPlace} (h:DataW.trod enc prog w base (fun _=>true) held fuel 50 [.slice a len cap]=some x):
  ∃l:List Bx,len=l.length/\IsRws w a cap l:=by
 rcases Deep.open_slice underlying50 h with ⟨hcs,_⟩|⟨x,l,c,m,n,D,Pl,hcs,_,hl,hm,hmm,_,hx⟩
 ·simp at hcs;obtain ⟨rfl,rfl,rfl⟩:=hcs;exact ⟨[],rfl,jB _,by simp [maxLen],.inl rfl⟩
 ·simp at hcs;obtain ⟨rfl,rfl,rfl⟩:=hcs;have hlm:len<=m:=by rw [hmm];split<;>omega
  have each:∀i,i<len->∃d:Bx,∀(b off:Nat),x=⟨b,off,none⟩->BxAt' w b (off+i) d:=by
   intro i hi;obtain ⟨cs',h1,h2⟩:=hx i (by omega);rw [cells28r] at h1;obtain ⟨_,hlen,hcell⟩:=World.cells?_some h1
   match cs',hlen with
   |[v],_=>
    obtain ⟨a,ys,cap',rfl,hr,_⟩:=gT h2;refine ⟨⟨a,cap',ys⟩,fun b off e=>?_⟩;subst e;have q:((⟨b,off,none⟩:Addr).add (i*1)).add 0=⟨b,off+i,none⟩:=by rw [Addr.add_lit,Addr.add_lit,Nat.mul_one];rfl
    have e0:=hcell 0 (by omega);rw [q] at e0;exact ⟨by simpa using e0,hr⟩
  have:Inhabited Bx:=⟨noBx⟩;obtain ⟨f,hf⟩:=Deep.choose_lt each;refine ⟨(List.range len).map f,by simp,by simpa using hl,hm,?_⟩;by_cases h0:len=0
  ·exact .inl (by simp [h0])
  ·refine .inr ?_;obtain ⟨b,off,spot⟩:=x
   have hspot:spot=none:=by
    obtain ⟨cs',h1,h2⟩:=hx 0 (by omega);rw [cells28r] at h1;obtain ⟨_,hlen,hcell⟩:=World.cells?_some h1;have e0:=hcell 0 (by omega);obtain ⟨v,hv⟩:∃v,w.cell? (((⟨b,off,spot⟩:Addr).add (0*1)).add 0)=some v:=⟨_,e0.trans (jC (by omega))⟩
    simpa [Addr.add] using World.cell?_spot hv
   subst hspot;refine ⟨b,off,rfl,fun i hi=>?_⟩;simp at hi;have:=hf i hi b off rfl;rw [show ((List.range len).map f).getD i noBx=f i by simp [hi]];exact this
def smB (l:List Bx):Bool:=decide (l.length<=40)&&l.all fun b=>decide (b.z.length<=1500)
theorem smB_at {l:List Bx} (h:smB l=true) {i:Nat} (hi:i<l.length):(l.getD i noBx).z.length<=1500:=by
 unfold smB at h;rw [jN,List.all_eq_true] at h;have:=h.2 (l.getD i noBx) (by rw [jA,jC hi];exact qA _);exact jZ this
theorem sm_take {l:List Bx} {k:Nat} (hk:k<l.length) (h:(l.take k).all (fun d=>decide (d.z.length<=1500))=true) (hd:(l.getD k noBx).z.length<=1500):(l.take (k+1)).all (fun d=>decide (d.z.length<=1500))=true:=by
 have e:l.take (k+1)=l.take k++[l.getD k noBx]:=by
  rw [xK,jA,jC hk];rfl
 rw [e,List.all_append,h,yE]
 simpa using hd
theorem small_any (a:Option Addr) (cap:Nat) (l:List Bx) (w:World) (h:IsRws w a cap l):
  Calls prog 16 #[.slice a l.length cap] w fun e w'=>e=.returned (.bool (smB l))/\w=w':=by
 obtain ⟨h1,h2,h3⟩:=h;unfold maxLen at h2;have ht:∀(b:Bool),b=smB l->Ending.returned (.bool b)=.returned (.bool (smB l)):=fun b h=>by rw [h]
 by_cases hn:40<l.length
 ·go_enter func16,ntmps16
  go_wp2;go_ret
  exact ⟨ht _ (by simp [smB];omega),rfl⟩
 ·have HA:Hid (l=[]\/∃b off,a=some ⟨b,off,none⟩/\∀i,i<l.length->BxAt' w b (off+i) (l.getD i noBx)):=h3;clear h3;go_enter func16,ntmps16
  go_wp2;go_loop [3] (fun i=>∃k:Nat,k<=l.length/\i=.int .i64 k/\Hid ((l.take k).all (fun d=>decide (d.z.length<=1500))=true)) (fun i=>l.length-(intOf i).toNat)
  case atStart=>exact ⟨0,jW _,rfl,rfl⟩
  case round=>
   obtain ⟨k,hk,rfl,hall⟩:=hrel;by_cases hlt:k<l.length
   ·obtain ⟨b,off,rfl,hd⟩:=HA.out.resolve_left (by intro e;rw [e] at hlt;exact absurd hlt (by simp));have hdk:=hd k hlt;have c4:=hdk.c0;have hbm:(l.getD k noBx).z.length<=maxLen:=jR hdk.row.2.1 hdk.row.2.2.1;unfold maxLen at hbm;clear hdk hd;by_cases h200:(l.getD k noBx).z.length<=1500
    ·have R:Hid ((l.take (k+1)).all (fun d=>decide (d.z.length<=1500))=true):=sm_take hlt hall.out h200;obtain ⟨bl,hbl⟩:∃bl,(l.getD k noBx).z.length=bl:=⟨_,rfl⟩;rw [hbl] at c4 h200 hbm;clear hbl hall;go_wp2;go_round
     case rel=>exact ⟨k+1,by omega,by go_num,R⟩
     case measure=>simp [intOf];omega
    ·have hf:smB l=false:=by
      unfold smB
      have:l.all (fun d=>decide (d.z.length<=1500))=false:=by
       rw [List.all_eq_false];exact ⟨l[k],qA _,by rw [jA,jC hlt] at h200;simpa using h200⟩
      rw [this,Bool.and_false]
     obtain ⟨bl,hbl⟩:∃bl,(l.getD k noBx).z.length=bl:=⟨_,rfl⟩;rw [hbl] at c4 h200 hbm;have h200':1500<bl:=by omega
     clear hbl hall h200;go_wp2;go_ret
     exact ⟨ht _ hf.symm,rfl⟩
   ·have hf:smB l=true:=by
     unfold smB;rw [jN];refine ⟨by simp;omega,?_⟩;have:=hall.out
     rwa [qP (by omega)] at this
    go_wp2;go_ret
    exact ⟨ht _ hf.symm,rfl⟩
end Go.Proofs.YtaijfhadecennabGreat.Oct
namespace Go.Proofs.YtaijfhadecennabGreat.Oct.Sx
open Go.RowKit
section
variable {w:World} {B s d n c:Nat} {X:St} {pl:Nat} {r:Rp} {T:List (Sp × Rp)} {last:List Int} {tr:List (List Int)}
theorem Lv.device (h:Lv w B s d n c X pl r T last tr):Calls prog 20 #[.pointer (some ⟨s,0,none⟩)] w fun e w'=>e=.returned (.pointer (some ⟨d,0,none⟩))/\w=w':=by
 obtain ⟨F,h1,_⟩:=h.sto;exact kB h1
end
end Go.Proofs.YtaijfhadecennabGreat.Oct.Sx
