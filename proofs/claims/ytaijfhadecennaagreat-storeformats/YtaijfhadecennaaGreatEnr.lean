/- Part of a proof. -/
import Derived.Test.YtaijfhadecennaaGreatR
import Derived.Deep.Slices
import Derived.ChangeSame
import Derived.ProofKit
import Derived.Test.YtaijfhadecennaaGreatEah
import Derived.Test.YtaijfhadecennaaGreatGb
import Derived.Test.YtaijfhadecennaaGreatUn
import Derived.Test.YtaijfhadecennaaGreatEnb
namespace Go.Proofs.YtaijfhadecennaaGreat.Oct
open Go.RowKit Go.ChangeShapes Go.WideShapes
structure Bx where
 a:Option Addr
 c:Nat
 z:List Int
def noBx:Bx:=⟨none,0,[]⟩
structure BxAt' (w:World) (b o:Nat) (d:Bx):Prop where
 c0:w.cell? ⟨b,o,none⟩=some (.slice d.a d.z.length d.c)
 row:Row w d.a d.c d.z
theorem BxAt'.below {w w':World} {b o:Nat} {d:Bx} (h:BxAt' w b o d) (k:Below w.heap.size w w'):BxAt' w' b o d:=
 ⟨(k.cell (p:=⟨b,o,none⟩) (block_lt_of_cell h.c0)).trans h.c0,h.row.below k⟩
def IsRws (w:World) (a:Option Addr) (cap:Nat) (l:List Bx):Prop:=
 l.length<=cap/\cap<=maxLen/\(l=[]\/∃b off,a=some ⟨b,off,none⟩/\∀i,i<l.length->BxAt' w b (off+i) (l.getD i noBx))
theorem IsRws.below {w w':World} {a:Option Addr} {cap:Nat} {l:List Bx} (h:IsRws w a cap l) (k:Below w.heap.size w w'):IsRws w' a cap l:=by
 obtain ⟨h1,h2,h3⟩:=h;refine ⟨h1,h2,?_⟩;rcases h3 with h3|⟨b,off,e,h4⟩
 ·exact .inl h3
 ·exact .inr ⟨b,off,e,fun i hi=>(h4 i hi).below k⟩
theorem row_lt {w:World} {a:Option Addr} {c:Nat} {zs:List Int} (h:Row w a c zs):zs=[]\/∀x,a=some x->x.block<w.heap.size:=by
 by_cases hz:zs=[]
 ·exact .inl hz
 ·rcases h.2.2.2 with e|⟨b,off,e,hc⟩
  ·exact absurd e hz
  ·refine .inr fun x hx=>?_
   rw [e] at hx;cases hx;have h0:0<zs.length:=List.length_pos_iff.2 hz;exact block_lt_of_cell (hc 0 h0)
theorem cells28r:Tryz.prog.cellsOf 32=1:=by kernel_rfl
theorem open_bytesr {H:Type} {enc:TypeId × Value->H} {w:World} {base fuel:Nat} {held:Bool} {v:Value} {x:DataW H × List MemPlace} (h:DataW.trod enc Tryz.prog w base (fun _=>true) held fuel 32 [v]=some x):
  ∃a ys cap,v=.slice a ys.length cap/\Row w a cap ys/\(a=none->cap=0):=by
 rcases open_ints Tryz.underlying32 Tryz.underlying5 (by kernel_rfl) h with ⟨hcs,_⟩|⟨x,l,c,zs,hcs,_,hl,hm,hz,_,hcell,hwz⟩
 ·simp at hcs;exact ⟨none,[],0,hcs,⟨fun z hz=>by simp at hz,jB _,by simp [maxLen],.inl rfl⟩,fun _=>rfl⟩
 ·simp at hcs;have hr:IsRow .u8 w (some x) l c zs:=.inr ⟨_,rfl,hl,hm,by simpa using hz,hcell,hwz⟩;obtain ⟨ys,h1,h2⟩:=hr.row;exact ⟨some x,ys,c,by rw [hcs,h1],h2,fun e=>by cases e⟩
set_option maxRecDepth 20000 in
theorem open_rws {H:Type} {enc:TypeId × Value->H} {w:World} {base fuel:Nat} {held:Bool} {a:Option Addr} {len cap:Nat} {x:DataW H × List MemPlace} (h:DataW.trod enc Tryz.prog w base (fun _=>true) held fuel 51 [.slice a len cap]=some x):
  ∃l:List Bx,len=l.length/\IsRws w a cap l:=by
 rcases Deep.open_slice Tryz.underlying51 h with ⟨hcs,_⟩|⟨x,l,c,m,n,D,Pl,hcs,_,hl,hm,hmm,_,hx⟩
 ·simp at hcs;obtain ⟨rfl,rfl,rfl⟩:=hcs;exact ⟨[],rfl,jB _,by simp [maxLen],.inl rfl⟩
 ·simp at hcs;obtain ⟨rfl,rfl,rfl⟩:=hcs;have hlm:len<=m:=by rw [hmm];split<;>omega
  have each:∀i,i<len->∃d:Bx,∀(b off:Nat),x=⟨b,off,none⟩->BxAt' w b (off+i) d:=by
   intro i hi;obtain ⟨cs',h1,h2⟩:=hx i (by omega);rw [cells28r] at h1;obtain ⟨_,hlen,hcell⟩:=World.cells?_some h1
   match cs',hlen with
   |[v],_=>
    obtain ⟨a,ys,cap',rfl,hr,_⟩:=open_bytesr h2;refine ⟨⟨a,cap',ys⟩,fun b off e=>?_⟩;subst e;have q:((⟨b,off,none⟩:Addr).add (i*1)).add 0=⟨b,off+i,none⟩:=by rw [Addr.add_lit,Addr.add_lit,Nat.mul_one];rfl
    have e0:=hcell 0 (by omega);rw [q] at e0;exact ⟨by simpa using e0,hr⟩
  have:Inhabited Bx:=⟨noBx⟩;obtain ⟨f,hf⟩:=Deep.choose_lt each;refine ⟨(List.range len).map f,by simp,by simpa using hl,hm,?_⟩;by_cases h0:len=0
  ·exact .inl (by simp [h0])
  ·refine .inr ?_;obtain ⟨b,off,spot⟩:=x
   have hspot:spot=none:=by
    obtain ⟨cs',h1,h2⟩:=hx 0 (by omega);rw [cells28r] at h1;obtain ⟨_,hlen,hcell⟩:=World.cells?_some h1;have e0:=hcell 0 (by omega);obtain ⟨v,hv⟩:∃v,w.cell? (((⟨b,off,spot⟩:Addr).add (0*1)).add 0)=some v:=⟨_,e0.trans (jC (by omega))⟩
    simpa [Addr.add] using World.cell?_spot hv
   subst hspot;refine ⟨b,off,rfl,fun i hi=>?_⟩;simp at hi;have:=hf i hi b off rfl;rw [show ((List.range len).map f).getD i noBx=f i by simp [hi]];exact this
def smB (l:List Bx):Bool:=decide (l.length<=40)&&l.all fun b=>decide (b.z.length<=1500)
theorem smB_at {l:List Bx} (h:smB l=true) {i:Nat} (hi:i<l.length):(l.getD i noBx).z.length<=1500:=by
 unfold smB at h;rw [jP,List.all_eq_true] at h;have:=h.2 (l.getD i noBx) (by rw [jA,jC hi];exact qD _);exact jV this
theorem smB_len {l:List Bx} (h:smB l=true):l.length<=40:=by
 unfold smB at h;rw [jP] at h;exact jV h.1
theorem sm_take {l:List Bx} {k:Nat} (hk:k<l.length) (h:(l.take k).all (fun d=>decide (d.z.length<=1500))=true) (hd:(l.getD k noBx).z.length<=1500):(l.take (k+1)).all (fun d=>decide (d.z.length<=1500))=true:=by
 have e:l.take (k+1)=l.take k++[l.getD k noBx]:=by
  rw [xM,jA,jC hk];rfl
 rw [e,List.all_append,h,xP]
 simpa using hd
set_option maxHeartbeats 2000000 in
theorem small_any (a:Option Addr) (cap:Nat) (l:List Bx) (w:World) (h:IsRws w a cap l):
  Calls Tryz.prog 36 #[.slice a l.length cap] w fun e w'=>e=.returned (.bool (smB l))/\w=w':=by
 obtain ⟨h1,h2,h3⟩:=h;unfold maxLen at h2;have ht:∀(b:Bool),b=smB l->Ending.returned (.bool b)=.returned (.bool (smB l)):=fun b h=>by rw [h]
 by_cases hn:40<l.length
 ·go_enter Tryz.func36,Tryz.ntmps36
  go_wp2;go_ret
  exact ⟨ht _ (by simp [smB];omega),rfl⟩
 ·have HA:Hid (l=[]\/∃b off,a=some ⟨b,off,none⟩/\∀i,i<l.length->BxAt' w b (off+i) (l.getD i noBx)):=h3;clear h3;go_enter Tryz.func36,Tryz.ntmps36
  go_wp2;go_loop [3] (fun i=>∃k:Nat,k<=l.length/\i=.int .i64 k/\Hid ((l.take k).all (fun d=>decide (d.z.length<=1500))=true)) (fun i=>l.length-(intOf i).toNat)
  case atStart=>exact ⟨0,jU _,rfl,rfl⟩
  case round=>
   obtain ⟨k,hk,rfl,hall⟩:=hrel;by_cases hlt:k<l.length
   ·obtain ⟨b,off,rfl,hd⟩:=HA.out.resolve_left (by intro e;rw [e] at hlt;exact absurd hlt (by simp));have hdk:=hd k hlt;have c4:=hdk.c0;have hbm:(l.getD k noBx).z.length<=maxLen:=jN hdk.row.2.1 hdk.row.2.2.1;unfold maxLen at hbm;clear hdk hd;by_cases h200:(l.getD k noBx).z.length<=1500
    ·have R:Hid ((l.take (k+1)).all (fun d=>decide (d.z.length<=1500))=true):=sm_take hlt hall.out h200;obtain ⟨bl,hbl⟩:∃bl,(l.getD k noBx).z.length=bl:=⟨_,rfl⟩;rw [hbl] at c4 h200 hbm;clear hbl hall;go_wp2;go_round
     case rel=>exact ⟨k+1,by omega,by go_num,R⟩
     case measure=>simp [intOf];omega
    ·have hf:smB l=false:=by
      unfold smB
      have:l.all (fun d=>decide (d.z.length<=1500))=false:=by
       rw [List.all_eq_false];exact ⟨l[k],qD _,by rw [jA,jC hlt] at h200;simpa using h200⟩
      rw [this,Bool.and_false]
     obtain ⟨bl,hbl⟩:∃bl,(l.getD k noBx).z.length=bl:=⟨_,rfl⟩;rw [hbl] at c4 h200 hbm;have h200':1500<bl:=by omega
     clear hbl hall h200;go_wp2;go_ret
     exact ⟨ht _ hf.symm,rfl⟩
   ·have hf:smB l=true:=by
     unfold smB;rw [jP];refine ⟨by simp;omega,?_⟩;have:=hall.out
     rwa [qQ (by omega)] at this
    go_wp2;go_ret
    exact ⟨ht _ hf.symm,rfl⟩
end Go.Proofs.YtaijfhadecennaaGreat.Oct
namespace Go.Proofs.YtaijfhadecennaaGreat.Oct.Sx
open Go.RowKit
theorem In.dev {D E:Dv} {N:Nat} {L:List Fr} {P:List Int} {S:Sp} {pl:Nat} {C:List Int} {g:Int} {r:Rp} {T:List (Sp × Rp)} (h:In D N L P S pl C g r T) (hj:Jv E S pl r T) (hn:E.n=D.n) (hw:E.now=D.now):In E N L P S pl C g r T:=
 {jv:=hj,fi:=h.fi.now hj.ok hn hw,nd:=h.nd,pi:=by rw [hn];exact h.pi,rc:=h.rc,tc:=fun y hy z hz=>by rw [hn];exact h.tc y hy z hz,gs:=h.gs,gt:=h.gt,sp:=by rw [hn];exact h.sp}
section
variable {w:World} {B s d n c:Nat} {X:St} {pl:Nat} {r:Rp} {T:List (Sp × Rp)} {last:List Int} {tr:List (List Int)}
theorem Lv.device (h:Lv w B s d n c X pl r T last tr):Calls Tryz.prog 39 #[.pointer (some ⟨s,0,none⟩)] w fun e w'=>e=.returned (.pointer (some ⟨d,0,none⟩))/\w=w':=by
 obtain ⟨F,h1,_⟩:=h.sto;exact Device_any h1
theorem Lv.dead (h:Lv w B s d n c X pl r T last tr):Calls Tryz.prog 42 #[.pointer (some ⟨d,0,none⟩)] w fun e w'=>e=.returned (.bool X.D.dead)/\w=w':=by
 obtain ⟨F,h1,_⟩:=h.sto;obtain ⟨Fd,d1,_⟩:=h1.dev;exact dead_any d1
theorem Lv.crash (h:Lv w B s d n c X pl r T last tr) (hc:c<=1000000) (a:Option Addr) (cap:Nat) (ch:List Int) (hr:Row w a cap ch):Calls Tryz.prog 40 #[.pointer (some ⟨d,0,none⟩),.slice a ch.length cap] w fun e w'=>∃q F',e=.returned (.pointer (some ⟨q,0,none⟩))/\Dev w' q F' (crashD X.D ch)/\Below w.heap.size w w'/\∀k,F' k->w.heap.size<=k:=by
 obtain ⟨F,h1,_⟩:=h.sto;obtain ⟨Fd,d1,_⟩:=h1.dev;have:=h.since;exact crash_any d1 (by omega) a cap ch hr
theorem Lv.fuse (h:Lv w B s d n c X pl r T last tr) (hB:B<=w.heap.size) (f:Int) (h1: -9223372036854775808<=f) (h2:f<=9223372036854775807):Calls Tryz.prog 41 #[.pointer (some ⟨d,0,none⟩),.int .i64 f] w fun e w'=>e=.returned (.tuple #[])/\Lv w' B s d n c {X with D:=fuseD X.D f} pl r T last tr/\Below B w w':=by
 obtain ⟨F,k1,k2⟩:=h.sto;obtain ⟨Fd,d1,d2,d3⟩:=k1.devS;have en:(fuseD X.D f).n=X.D.n:=by unfold fuseD;split<;>rfl
 have ew:(fuseD X.D f).now=X.D.now:=by unfold fuseD;split<;>rfl
 refine (fuse_any d1 f h1 h2).mono ?_;rintro e w' ⟨rfl,hd,hc⟩;refine ⟨rfl,⟨⟨F,d3 w' _ hd en hc,k2⟩,In.dev h.i (h.i.jv.fuseD f) en ew,h.pl,en.trans h.dn,?_,?_,h.g,h.st,h.rr,h.tr⟩,(hc.mono hB (fun _ _ e=>e)).below (fun k e=>k2 k (d2 k e))⟩
 ·have:(fuseD X.D f).ops=X.D.ops:=by unfold fuseD;split<;>rfl
  show (fuseD X.D f).ops<=c;rw [this];exact h.ops
 ·have:(fuseD X.D f).since=X.D.since:=by unfold fuseD;split<;>rfl
  show (fuseD X.D f).since.length<=c;rw [this];exact h.since
theorem fallD_n (h:Lv w B s d n c X pl r T last tr) (ch:List Int):(crashD X.D ch).n=n/\(crashD X.D ch).ok:=by
 have ok:=crashD_ok h.i.jv.ok ch;refine ⟨?_,ok⟩;have h1:=ok.sure;have h2:(crashD X.D ch).sure.length=X.D.n*256:=(fallK_len ..).trans h.i.jv.ok.sure;have h3:=h.dn;omega
end
theorem rdK_now (D:Dv):∀j,(rdK D j).now=D.now
 |0=>rfl
 |j+1=>(read_now _).trans (rdK_now D j)
theorem rdK_sure (D:Dv):∀j,(rdK D j).sure=D.sure/\(rdK D j).since=D.since
 |0=>⟨rfl,rfl⟩
 |j+1=>by
  have h:=rdK_sure D j
  have:(readD (rdK D j)).sure=(rdK D j).sure/\(readD (rdK D j)).since=(rdK D j).since:=by
   unfold readD;split
   ·exact ⟨rfl,rfl⟩
   ·split<;>exact ⟨rfl,rfl⟩
  exact ⟨this.1.trans h.1,this.2.trans h.2⟩
section
variable {w:World} {B s d n c:Nat} {X:St} {pl:Nat} {r:Rp} {T:List (Sp × Rp)} {last:List Int} {tr:List (List Int)}
theorem crashWhole (h:Lv w B s d n c X pl r T last tr) (ch:List Int) {wx:World} {q k:Nat} {Fq:Nat->Prop} (hd:Dev wx q Fq (rdK (crashD X.D ch) k)) (hk:k<=1000000) (hF:∀k,Fq k->B<=k) (hB:B<=wx.heap.size) (a:Option Addr) (cap:Nat) (zs:List Int) (hr:Row wx a cap zs) (ha:zs=[]\/∀k,obl a k->k<B) (m:Nat) (hm:zs.length=m):
  Calls Tryz.prog 21 #[.pointer (some ⟨q,0,none⟩),.slice a m cap] wx fun e w'=>e=.returned (.bool (sameB (oaR (crashD X.D ch).now).st zs))/\(∃k',k'<=k+5000/\Dev w' q Fq (rdK (crashD X.D ch) k'))/\Ch wx.heap.size Fq wx w':=by
 obtain ⟨f1,f2,_⟩:=h.fall ch;have h4:=h.i.jv.ok.n4;have hdn:=h.dn;have ho:=(rdK_ops (crashD X.D ch) k).1;have h0:(crashD X.D ch).ops=0:=rfl;refine (whole_any hd ((Well.new _:Well (crashD X.D ch)).mo (rdK_mo _ k)) (rdK_now _ k) ((rdK_n _ k).trans (fallD_n h ch).1) (by omega) f1 f2 a cap m zs hr (ha.imp id (fun ha k hk=>⟨by have:=ha k hk;omega,fun e=>by have:=hF k e;have:=ha k hk;omega⟩)) hm _ rfl).mono ?_;rintro e w' ⟨rfl,⟨k',hk',hd'⟩,hc⟩;exact ⟨rfl,⟨k+k',by omega,by rw [<-rdK_add];exact hd'⟩,hc⟩
end
theorem crash_two (D:Dv) (ch:List Int) (k:Nat):crashD (rdK (crashD D ch) k) []=crashD D ch:=by
 obtain ⟨h1,h2⟩:=rdK_sure (crashD D ch) k;unfold crashD at h1 h2 ⊢;rw [h1,h2];rfl
theorem sameB_self (l:List Int):sameB l l=true:=by simp [sameB]
theorem sameB_no {l m:List Int} (h:sameB l m=false):l≠m:=fun e=>by
 rw [e,sameB_self] at h;cases h
end Go.Proofs.YtaijfhadecennaaGreat.Oct.Sx
namespace Go.Proofs.YtaijfhadecennaaGreat.Oct.Sx
open Go.RowKit
section
variable {w:World} {B s d n c N:Nat} {X X2:St} {pl:Nat} {r:Rp} {last:List Int} {tr:List (List Int)} {D0:Dv}
theorem opd_same (h:Lv w B s d n c X pl r [] last tr) (hv:LvW n X pl r []) (hX:Opd N n D0 (oaR D0.now) X2) (hn:D0.now=X.D.now):X2.P.count 0=X.P.count 0/\X2.S=X.S:=by
 obtain ⟨_,_,_,e4,_,_,_,R3,e8,e9,e10⟩:=hX;rw [hn,h.now.2] at e4 e10;have hS:X2.S=X.S:=e4.trans hv.rs
 have hrc:∀z,z∈r.pg↔z∈X2.C:=fun z=>by
  have:r.pg=rsB R3 n:=e10;rw [this];exact e8.rs z
 have h8:=h.i.jv.ok.n8;have h4:=h.i.jv.ok.n4;rw [h.dn] at h8 h4;have hpi:=e8.inv h8 h4;rw [<-e9] at hpi;have l1:=hpi.len;have l2:=h.i.pi.len;rw [h.dn] at l2
 have hP:X2.P=X.P:=by
  refine eq_of_getD (by omega) fun i hi=>?_
  have hin:i<n:=by omega
  have e1:=hpi.one i hin;have e2:=h.one hv hin;have e3:=e8.zo i hin;rw [<-e9] at e3;rw [e2];have hcc:(i:Int)∈X2.C↔(i:Int)∈X.C:=by rw [<-hrc,hv.rc]
  rw [hcc] at e1;split
  ·next b=>exact e1.2 b
  ·next b=>
   rcases e3 with e|e
   ·exact e
   ·exact absurd (e1.1 e) b
 exact ⟨by rw [hP],hS⟩
theorem elder {w0 w w':World} {s d t:Nat} {X X2:St} {F Fd:Nat->Prop} (hdd:∀(w':World) (D':Dv) (Fd':Nat->Prop),Dev w' d Fd' D'->D'.n=X.D.n->Step Fd Fd' w0 w'->∃F',Sto w' s d F' {X with D:=D'}/\Step F F' w0 w') (hb:Below w0.heap.size w0 w) (hO:StoO w w' Fd t d X2) (hn:X2.D.n=X.D.n):
  (∃F',Sto w' s d F' {X with D:=X2.D})/\(∃F',Sto w' t d F' X2)/\(∃Fd',Dev w' d Fd' X2.D)/\Ch w.heap.size Fd w w':=by
 obtain ⟨F',o1,o2⟩:=hO.out;obtain ⟨Fd2,d1,d2,_⟩:=o1.dev;obtain ⟨F3,s1,_⟩:=hdd w' X2.D Fd2 d1 hn ((Step.ofB hb).trans ⟨o2.1,fun k hk=>o2.2 k (d2 k hk)⟩);exact ⟨⟨F3,s1⟩,⟨F',o1⟩,⟨Fd2,d1⟩,o2.1⟩
end
end Go.Proofs.YtaijfhadecennaaGreat.Oct.Sx
namespace Go.Proofs.YtaijfhadecennaaGreat.Oct.Sx
open Go.RowKit
section
variable {w:World} {s d:Nat} {F:Nat->Prop} {X:St}
theorem Sto.sp (h:Sto w s d F X):∃sp F2,w.cell? ⟨s,2,none⟩=some (.pointer (some ⟨sp,0,none⟩))/\Sps.Spa w sp F2 X.P/\∀(w':World) (P':List Int) (F2':Nat->Prop),Sps.Spa w' sp F2' P'->Step F2 F2' w w'->∃F',Sto w' s d F' {X with P:=P'}/\Step F F' w w':=by
 obtain ⟨p,sp,aC,cC,lab,hS,hlab,hlt⟩:=h;obtain ⟨F2,q1,q2⟩:=hS.space;refine ⟨sp,F2,hS.at.2.2.1,q1,fun w' P' F2' hp st=>?_⟩;have hs:=hS.space' q2 (spa_lt q1) hp st
 exact StoO.out ⟨p,sp,aC,cC,_,hs,fun k hk=>by
  by_cases hlt:k<w.heap.size
  ·rw [relab_lo hlt] at hk;exact .inl (hlab k hk)
  ·exact .inr (by omega),st.1.mono (jB _) (fun k _ e=>hlab k (by have:=q2 k e;omega))⟩
theorem Alloc_any (h:Sto w s d F X):Calls Tryz.prog 16 #[.pointer (some ⟨s,0,none⟩)] w fun e w'=>e=.returned (.tuple #[.int .i64 (alN X.P),.int .i64 (alE X.P)])/\∃F',Sto w' s d F' {X with P:=alL X.P}/\Step F F' w w':=by
 have s0:=h.cell 0 (.pointer (some ⟨d,0,none⟩)) (fun _ _ _=>rfl);have hmd:=made_yes s d w s0;obtain ⟨sp,F2,s2,q1,q2⟩:=h.sp;have hal:=Sps.alloc_any q1;have HQ:Hid (∀(w':World) (P':List Int) (F2':Nat->Prop),Sps.Spa w' sp F2' P'->Step F2 F2' w w'->∃F',Sto w' s d F' {X with P:=P'}/\Step F F' w w'):=q2;clear h q1 q2;go_enter Tryz.func16,Tryz.ntmps16
 go_wp2_with (first
  |(go_at_call 55;refine hmd.mono ?_;rintro e w' ⟨rfl,rfl⟩;clear hmd)
  |(go_at_call 59;refine hal.mono ?_;rintro e w1 ⟨rfl,F3,q3,st⟩;have H1:Hid (∃F',Sto w1 s d F' {X with P:=alL X.P}/\Step F F' w w1):=HQ.out _ _ _ q3 st;clear hal q3 st))
 go_ret2
 exact ⟨rfl,H1.out⟩
theorem run_held0 (x:Int) (w:World):(Instr.lookup 79 (.map none) (.int .i64 x) true).run Tryz.prog w=.ok (.tuple #[.agg #[],.bool false]) w:=by kernel_rfl
set_option maxRecDepth 20000 in
theorem holds_no (h:Sto w s d F X) (x:Int):Calls Tryz.prog 60 #[.pointer (some ⟨s,0,none⟩),.int .i64 x] w fun e w'=>e=.returned (.bool false)/\Below w.heap.size w w':=by
 have s15:=h.cell 15 (.map none) (fun _ _ _=>rfl);have hlk:=run_held0;clear h;go_enter Tryz.func60,Tryz.ntmps60
 go_wp2_with fail
 go_ret
 exact ⟨rfl,(Below.refl _ w).alloc (jB _) _⟩
theorem atPoint_no (h:Sto w s d F X) (x:Int):Calls Tryz.prog 57 #[.pointer (some ⟨s,0,none⟩),.int .i64 x] w fun e w'=>e=.returned (.bool false)/\w=w':=by
 have s14:=h.cell 14 (.pointer none) (fun _ _ _=>rfl);clear h;go_enter Tryz.func57,Tryz.ntmps57
 go_wp2_with fail
 go_ret
 exact ⟨rfl,rfl⟩
theorem Back_no (h:Sto w s d F X):Calls Tryz.prog 18 #[.pointer (some ⟨s,0,none⟩)] w fun e w'=>e=.returned (.bool false)/\w=w':=by
 have s0:=h.cell 0 (.pointer (some ⟨d,0,none⟩)) (fun _ _ _=>rfl);have s14:=h.cell 14 (.pointer none) (fun _ _ _=>rfl);have hmd:=made_yes s d w s0;clear h;go_enter Tryz.func18,Tryz.ntmps18
 go_wp2_with (go_at_call 55;refine hmd.mono ?_;rintro e w' ⟨rfl,rfl⟩)
 go_ret
 exact ⟨rfl,rfl⟩
theorem Drop_any (h:Sto w s d F X) (x:Int):Calls Tryz.prog 17 #[.pointer (some ⟨s,0,none⟩),.int .i64 x] w fun e w'=>e=.returned (.int .i64 (gvE X.P x))/\∃F',Sto w' s d F' {X with P:=gvL X.P x}/\Step F F' w w':=by
 have s0:=h.cell 0 (.pointer (some ⟨d,0,none⟩)) (fun _ _ _=>rfl);have hmd:=made_yes s d w s0;have hho:=holds_no h x;have HH:Hid (Sto w s d F X):=h;clear h;go_enter Tryz.func17,Tryz.ntmps17
 go_wp2_with (first
  |(go_at_call 55;refine hmd.mono ?_;rintro e w' ⟨rfl,rfl⟩;clear hmd)
  |(go_at_call 60;refine hho.mono ?_;rintro e w1 ⟨rfl,hb1⟩
    have h1:=HH.out.below hb1;have hat:=atPoint_no h1 x;obtain ⟨sp,F2,s2,q1,q2⟩:=h1.sp;have hgv:=Sps.give_any q1 x;have HQ:Hid (∀(w':World) (P':List Int) (F2':Nat->Prop),Sps.Spa w' sp F2' P'->Step F2 F2' w1 w'->∃F',Sto w' s d F' {X with P:=P'}/\Step F F' w1 w'):=q2;have HB:Hid (Below w.heap.size w w1):=hb1;clear hho h1 q1 q2 hb1)
  |(go_at_call 57;refine hat.mono ?_;rintro e w' ⟨rfl,rfl⟩;clear hat)
  |(go_at_call 61;refine hgv.mono ?_;rintro e w1 ⟨rfl,F3,q3,st⟩
    have H1:Hid (∃F',Sto w1 s d F' {X with P:=gvL X.P x}/\Step F F' w w1):=by
     obtain ⟨F',k1,k2⟩:=HQ.out _ _ _ q3 st;exact ⟨F',k1,(Step.ofB HB.out).trans k2⟩
    clear hgv q3 st))
 go_ret
 exact ⟨rfl,H1.out⟩
theorem Own_any (h:Sto w s d F X) (x:Int):Calls Tryz.prog 31 #[.pointer (some ⟨s,0,none⟩),.int .i64 x] w fun e w'=>e=.returned (.bool (isB X.P x 2))/\Below w.heap.size w w':=by
 have s0:=h.cell 0 (.pointer (some ⟨d,0,none⟩)) (fun _ _ _=>rfl);have hmd:=made_yes s d w s0;obtain ⟨sp,F2,s2,q1,q2⟩:=h.sp;have how:=Sps.own_any q1 x;have hho:=fun w' (hb:Below w.heap.size w w')=>holds_no (h.below hb) x
 obtain ⟨b,hb⟩:∃b,isB X.P x 2=b:=⟨_,rfl⟩;rw [hb] at how ⊢;clear h q1 q2 hb;cases b
 all_goals (
  go_enter Tryz.func31,Tryz.ntmps31
  go_wp2_with (first
   |(go_at_call 55;refine hmd.mono ?_;rintro e w' ⟨rfl,rfl⟩;clear hmd)
   |(go_at_call 75;refine how.mono ?_;rintro e w1 ⟨rfl,hb1⟩;have hho1:=hho w1 hb1;have H1:Hid (Below w.heap.size w w1):=hb1;clear how hho hb1)
   |(go_at_call 60;refine hho1.mono ?_;rintro e w2 ⟨rfl,hb2⟩;have H2:Hid (Below w.heap.size w w2):=H1.out.trans (hb2.mono H1.out.size);clear hho1 hb2))
  go_ret
  first|exact ⟨rfl,H2.out⟩|exact ⟨rfl,H1.out⟩)
theorem Write_no (h:Sto w s d F X) (x:Int) (hx:0<=x/\x<X.D.n) (hn:isB X.P x 2=false) (a:Option Addr) (c:Nat):Calls Tryz.prog 14 #[.pointer (some ⟨s,0,none⟩),.int .i64 x,.slice a 256 c] w fun e w'=>e=.returned (.int .i64 10)/\Below w.heap.size w w':=by
 have s0:=h.cell 0 (.pointer (some ⟨d,0,none⟩)) (fun _ _ _=>rfl);have hmd:=made_yes s d w s0;have hha:=has_any h x hx;have how:=Own_any h x;rw [hn] at how;clear h hx hn;go_enter Tryz.func14,Tryz.ntmps14
 go_wp2_with (first
  |(go_at_call 55;refine hmd.mono ?_;rintro e w' ⟨rfl,rfl⟩;clear hmd)
  |(go_at_call 56;refine hha.mono ?_;rintro e w' ⟨rfl,rfl⟩;clear hha)
  |(go_at_call 31;refine how.mono ?_;rintro e w1 ⟨rfl,hb1⟩;have H1:Hid (Below w.heap.size w w1):=hb1;clear how hb1))
 go_ret
 exact ⟨rfl,H1.out⟩
end
end Go.Proofs.YtaijfhadecennaaGreat.Oct.Sx
