/- Part of a proof. -/
import Derived.Test.YtaijfhadecennaaGreatR
import Derived.Deep.Slices
import Derived.ChangeSame
import Derived.ProofKit
import Derived.Test.YtaijfhadecennaaGreatEah
namespace Go.Proofs.YtaijfhadecennaaGreat.Oct
open Go.RowKit Go.ChangeShapes Go.WideShapes
structure Bx where
 a:Option Addr
 c:Nat
 z:List Int
def noBx:Bx:=⟨none,0,[]⟩
structure BxAt' (w:World) (b o:Nat) (d:Bx):Prop where
 c0:w.cell? ⟨b,o,none⟩=some (.slice d.a d.z.length d.c)
 row:Row w d.a d.c d.z
theorem BxAt'.below {w w':World} {b o:Nat} {d:Bx} (h:BxAt' w b o d) (k:Below w.heap.size w w'):BxAt' w' b o d:=
 ⟨(k.cell (p:=⟨b,o,none⟩) (block_lt_of_cell h.c0)).trans h.c0,h.row.below k⟩
def IsRws (w:World) (a:Option Addr) (cap:Nat) (l:List Bx):Prop:=
 l.length<=cap/\cap<=maxLen/\(l=[]\/∃b off,a=some ⟨b,off,none⟩/\∀i,i<l.length->BxAt' w b (off+i) (l.getD i noBx))
theorem IsRws.below {w w':World} {a:Option Addr} {cap:Nat} {l:List Bx} (h:IsRws w a cap l) (k:Below w.heap.size w w'):IsRws w' a cap l:=by
 obtain ⟨h1,h2,h3⟩:=h;refine ⟨h1,h2,?_⟩;rcases h3 with h3|⟨b,off,e,h4⟩
 ·exact .inl h3
 ·exact .inr ⟨b,off,e,fun i hi=>(h4 i hi).below k⟩
theorem row_lt {w:World} {a:Option Addr} {c:Nat} {zs:List Int} (h:Row w a c zs):zs=[]\/∀x,a=some x->x.block<w.heap.size:=by
 by_cases hz:zs=[]
 ·exact .inl hz
 ·rcases h.2.2.2 with e|⟨b,off,e,hc⟩
  ·exact absurd e hz
  ·refine .inr fun x hx=>?_
   rw [e] at hx;cases hx;have h0:0<zs.length:=List.length_pos_iff.2 hz;exact block_lt_of_cell (hc 0 h0)
theorem cells28r:Tryz.prog.cellsOf 32=1:=by kernel_rfl
theorem open_bytesr {H:Type} {enc:TypeId × Value->H} {w:World} {base fuel:Nat} {held:Bool} {v:Value} {x:DataW H × List MemPlace} (h:DataW.trod enc Tryz.prog w base (fun _=>true) held fuel 32 [v]=some x):
  ∃a ys cap,v=.slice a ys.length cap/\Row w a cap ys/\(a=none->cap=0):=by
 rcases open_ints Tryz.underlying32 Tryz.underlying5 (by kernel_rfl) h with ⟨hcs,_⟩|⟨x,l,c,zs,hcs,_,hl,hm,hz,_,hcell,hwz⟩
 ·simp at hcs;exact ⟨none,[],0,hcs,⟨fun z hz=>by simp at hz,jB _,by simp [maxLen],.inl rfl⟩,fun _=>rfl⟩
 ·simp at hcs;have hr:IsRow .u8 w (some x) l c zs:=.inr ⟨_,rfl,hl,hm,by simpa using hz,hcell,hwz⟩;obtain ⟨ys,h1,h2⟩:=hr.row;exact ⟨some x,ys,c,by rw [hcs,h1],h2,fun e=>by cases e⟩
set_option maxRecDepth 20000 in
theorem open_rws {H:Type} {enc:TypeId × Value->H} {w:World} {base fuel:Nat} {held:Bool} {a:Option Addr} {len cap:Nat} {x:DataW H × List MemPlace} (h:DataW.trod enc Tryz.prog w base (fun _=>true) held fuel 51 [.slice a len cap]=some x):
  ∃l:List Bx,len=l.length/\IsRws w a cap l:=by
 rcases Deep.open_slice Tryz.underlying51 h with ⟨hcs,_⟩|⟨x,l,c,m,n,D,Pl,hcs,_,hl,hm,hmm,_,hx⟩
 ·simp at hcs;obtain ⟨rfl,rfl,rfl⟩:=hcs;exact ⟨[],rfl,jB _,by simp [maxLen],.inl rfl⟩
 ·simp at hcs;obtain ⟨rfl,rfl,rfl⟩:=hcs;have hlm:len<=m:=by rw [hmm];split<;>omega
  have each:∀i,i<len->∃d:Bx,∀(b off:Nat),x=⟨b,off,none⟩->BxAt' w b (off+i) d:=by
   intro i hi;obtain ⟨cs',h1,h2⟩:=hx i (by omega);rw [cells28r] at h1;obtain ⟨_,hlen,hcell⟩:=World.cells?_some h1
   match cs',hlen with
   |[v],_=>
    obtain ⟨a,ys,cap',rfl,hr,_⟩:=open_bytesr h2;refine ⟨⟨a,cap',ys⟩,fun b off e=>?_⟩;subst e;have q:((⟨b,off,none⟩:Addr).add (i*1)).add 0=⟨b,off+i,none⟩:=by rw [Addr.add_lit,Addr.add_lit,Nat.mul_one];rfl
    have e0:=hcell 0 (by omega);rw [q] at e0;exact ⟨by simpa using e0,hr⟩
  have:Inhabited Bx:=⟨noBx⟩;obtain ⟨f,hf⟩:=Deep.choose_lt each;refine ⟨(List.range len).map f,by simp,by simpa using hl,hm,?_⟩;by_cases h0:len=0
  ·exact .inl (by simp [h0])
  ·refine .inr ?_;obtain ⟨b,off,spot⟩:=x
   have hspot:spot=none:=by
    obtain ⟨cs',h1,h2⟩:=hx 0 (by omega);rw [cells28r] at h1;obtain ⟨_,hlen,hcell⟩:=World.cells?_some h1;have e0:=hcell 0 (by omega);obtain ⟨v,hv⟩:∃v,w.cell? (((⟨b,off,spot⟩:Addr).add (0*1)).add 0)=some v:=⟨_,e0.trans (jC (by omega))⟩
    simpa [Addr.add] using World.cell?_spot hv
   subst hspot;refine ⟨b,off,rfl,fun i hi=>?_⟩;simp at hi;have:=hf i hi b off rfl;rw [show ((List.range len).map f).getD i noBx=f i by simp [hi]];exact this
def smB (l:List Bx):Bool:=decide (l.length<=40)&&l.all fun b=>decide (b.z.length<=1500)
theorem smB_at {l:List Bx} (h:smB l=true) {i:Nat} (hi:i<l.length):(l.getD i noBx).z.length<=1500:=by
 unfold smB at h;rw [jP,List.all_eq_true] at h;have:=h.2 (l.getD i noBx) (by rw [jA,jC hi];exact qD _);exact jX this
theorem smB_len {l:List Bx} (h:smB l=true):l.length<=40:=by
 unfold smB at h;rw [jP] at h;exact jX h.1
theorem sm_take {l:List Bx} {k:Nat} (hk:k<l.length) (h:(l.take k).all (fun d=>decide (d.z.length<=1500))=true) (hd:(l.getD k noBx).z.length<=1500):(l.take (k+1)).all (fun d=>decide (d.z.length<=1500))=true:=by
 have e:l.take (k+1)=l.take k++[l.getD k noBx]:=by
  rw [xM,jA,jC hk];rfl
 rw [e,List.all_append,h,xP]
 simpa using hd
set_option maxHeartbeats 2000000 in
theorem small_any (a:Option Addr) (cap:Nat) (l:List Bx) (w:World) (h:IsRws w a cap l):
  Calls Tryz.prog 36 #[.slice a l.length cap] w fun e w'=>e=.returned (.bool (smB l))/\w=w':=by
 obtain ⟨h1,h2,h3⟩:=h;unfold maxLen at h2;have ht:∀(b:Bool),b=smB l->Ending.returned (.bool b)=.returned (.bool (smB l)):=fun b h=>by rw [h]
 by_cases hn:40<l.length
 ·go_enter Tryz.func36,Tryz.ntmps36
  go_wp2;go_ret
  exact ⟨ht _ (by simp [smB];omega),rfl⟩
 ·have HA:Hid (l=[]\/∃b off,a=some ⟨b,off,none⟩/\∀i,i<l.length->BxAt' w b (off+i) (l.getD i noBx)):=h3;clear h3;go_enter Tryz.func36,Tryz.ntmps36
  go_wp2;go_loop [3] (fun i=>∃k:Nat,k<=l.length/\i=.int .i64 k/\Hid ((l.take k).all (fun d=>decide (d.z.length<=1500))=true)) (fun i=>l.length-(intOf i).toNat)
  case atStart=>exact ⟨0,jU _,rfl,rfl⟩
  case round=>
   obtain ⟨k,hk,rfl,hall⟩:=hrel;by_cases hlt:k<l.length
   ·obtain ⟨b,off,rfl,hd⟩:=HA.out.resolve_left (by intro e;rw [e] at hlt;exact absurd hlt (by simp));have hdk:=hd k hlt;have c4:=hdk.c0;have hbm:(l.getD k noBx).z.length<=maxLen:=jN hdk.row.2.1 hdk.row.2.2.1;unfold maxLen at hbm;clear hdk hd;by_cases h200:(l.getD k noBx).z.length<=1500
    ·have R:Hid ((l.take (k+1)).all (fun d=>decide (d.z.length<=1500))=true):=sm_take hlt hall.out h200;obtain ⟨bl,hbl⟩:∃bl,(l.getD k noBx).z.length=bl:=⟨_,rfl⟩;rw [hbl] at c4 h200 hbm;clear hbl hall;go_wp2;go_round
     case rel=>exact ⟨k+1,by omega,by go_num,R⟩
     case measure=>simp [intOf];omega
    ·have hf:smB l=false:=by
      unfold smB
      have:l.all (fun d=>decide (d.z.length<=1500))=false:=by
       rw [List.all_eq_false];exact ⟨l[k],qD _,by rw [jA,jC hlt] at h200;simpa using h200⟩
      rw [this,Bool.and_false]
     obtain ⟨bl,hbl⟩:∃bl,(l.getD k noBx).z.length=bl:=⟨_,rfl⟩;rw [hbl] at c4 h200 hbm;have h200':1500<bl:=by omega
     clear hbl hall h200;go_wp2;go_ret
     exact ⟨ht _ hf.symm,rfl⟩
   ·have hf:smB l=true:=by
     unfold smB;rw [jP];refine ⟨by simp;omega,?_⟩;have:=hall.out
     rwa [qQ (by omega)] at this
    go_wp2;go_ret
    exact ⟨ht _ hf.symm,rfl⟩
end Go.Proofs.YtaijfhadecennaaGreat.Oct
namespace Go.Proofs.YtaijfhadecennaaGreat.Oct.Sx
open Go.RowKit
theorem In.dev {D E:Dv} {N:Nat} {L:List Fr} {P:List Int} {S:Sp} {pl:Nat} {C:List Int} {g:Int} {r:Rp} {T:List (Sp × Rp)} (h:In D N L P S pl C g r T) (hj:Jv E S pl r T) (hn:E.n=D.n) (hw:E.now=D.now):In E N L P S pl C g r T:=
 {jv:=hj,fi:=h.fi.now hj.ok hn hw,nd:=h.nd,pi:=by rw [hn];exact h.pi,rc:=h.rc,tc:=fun y hy z hz=>by rw [hn];exact h.tc y hy z hz,gs:=h.gs,gt:=h.gt,sp:=by rw [hn];exact h.sp}
section
variable {w:World} {B s d n c:Nat} {X:St} {pl:Nat} {r:Rp} {T:List (Sp × Rp)} {last:List Int} {tr:List (List Int)}
theorem Lv.device (h:Lv w B s d n c X pl r T last tr):Calls Tryz.prog 39 #[.pointer (some ⟨s,0,none⟩)] w fun e w'=>e=.returned (.pointer (some ⟨d,0,none⟩))/\w=w':=by
 obtain ⟨F,h1,_⟩:=h.sto;exact Device_any h1
theorem Lv.dead (h:Lv w B s d n c X pl r T last tr):Calls Tryz.prog 42 #[.pointer (some ⟨d,0,none⟩)] w fun e w'=>e=.returned (.bool X.D.dead)/\w=w':=by
 obtain ⟨F,h1,_⟩:=h.sto;obtain ⟨Fd,d1,_⟩:=h1.dev;exact dead_any d1
theorem Lv.crash (h:Lv w B s d n c X pl r T last tr) (hc:c<=1000000) (a:Option Addr) (cap:Nat) (ch:List Int) (hr:Row w a cap ch):Calls Tryz.prog 40 #[.pointer (some ⟨d,0,none⟩),.slice a ch.length cap] w fun e w'=>∃q F',e=.returned (.pointer (some ⟨q,0,none⟩))/\Dev w' q F' (crashD X.D ch)/\Below w.heap.size w w'/\∀k,F' k->w.heap.size<=k:=by
 obtain ⟨F,h1,_⟩:=h.sto;obtain ⟨Fd,d1,_⟩:=h1.dev;have:=h.since;exact crash_any d1 (by omega) a cap ch hr
theorem Lv.fuse (h:Lv w B s d n c X pl r T last tr) (hB:B<=w.heap.size) (f:Int) (h1: -9223372036854775808<=f) (h2:f<=9223372036854775807):Calls Tryz.prog 41 #[.pointer (some ⟨d,0,none⟩),.int .i64 f] w fun e w'=>e=.returned (.tuple #[])/\Lv w' B s d n c {X with D:=fuseD X.D f} pl r T last tr/\Below B w w':=by
 obtain ⟨F,k1,k2⟩:=h.sto;obtain ⟨Fd,d1,d2,d3⟩:=k1.devS;have en:(fuseD X.D f).n=X.D.n:=by unfold fuseD;split<;>rfl
 have ew:(fuseD X.D f).now=X.D.now:=by unfold fuseD;split<;>rfl
 refine (fuse_any d1 f h1 h2).mono ?_;rintro e w' ⟨rfl,hd,hc⟩;refine ⟨rfl,⟨⟨F,d3 w' _ hd en hc,k2⟩,In.dev h.i (h.i.jv.fuseD f) en ew,h.pl,en.trans h.dn,?_,?_,h.g,h.st,h.rr,h.tr⟩,(hc.mono hB (fun _ _ e=>e)).below (fun k e=>k2 k (d2 k e))⟩
 ·have:(fuseD X.D f).ops=X.D.ops:=by unfold fuseD;split<;>rfl
  show (fuseD X.D f).ops<=c;rw [this];exact h.ops
 ·have:(fuseD X.D f).since=X.D.since:=by unfold fuseD;split<;>rfl
  show (fuseD X.D f).since.length<=c;rw [this];exact h.since
theorem fallD_n (h:Lv w B s d n c X pl r T last tr) (ch:List Int):(crashD X.D ch).n=n/\(crashD X.D ch).ok:=by
 have ok:=crashD_ok h.i.jv.ok ch;refine ⟨?_,ok⟩;have h1:=ok.sure;have h2:(crashD X.D ch).sure.length=X.D.n*256:=(fallK_len ..).trans h.i.jv.ok.sure;have h3:=h.dn;omega
end
theorem rdK_now (D:Dv):∀j,(rdK D j).now=D.now
 |0=>rfl
 |j+1=>(read_now _).trans (rdK_now D j)
theorem rdK_sure (D:Dv):∀j,(rdK D j).sure=D.sure/\(rdK D j).since=D.since
 |0=>⟨rfl,rfl⟩
 |j+1=>by
  have h:=rdK_sure D j
  have:(readD (rdK D j)).sure=(rdK D j).sure/\(readD (rdK D j)).since=(rdK D j).since:=by
   unfold readD;split
   ·exact ⟨rfl,rfl⟩
   ·split<;>exact ⟨rfl,rfl⟩
  exact ⟨this.1.trans h.1,this.2.trans h.2⟩
section
variable {w:World} {B s d n c:Nat} {X:St} {pl:Nat} {r:Rp} {T:List (Sp × Rp)} {last:List Int} {tr:List (List Int)}
theorem crashWhole (h:Lv w B s d n c X pl r T last tr) (ch:List Int) {wx:World} {q k:Nat} {Fq:Nat->Prop} (hd:Dev wx q Fq (rdK (crashD X.D ch) k)) (hk:k<=1000000) (hF:∀k,Fq k->B<=k) (hB:B<=wx.heap.size) (a:Option Addr) (cap:Nat) (zs:List Int) (hr:Row wx a cap zs) (ha:zs=[]\/∀k,obl a k->k<B) (m:Nat) (hm:zs.length=m):
  Calls Tryz.prog 21 #[.pointer (some ⟨q,0,none⟩),.slice a m cap] wx fun e w'=>e=.returned (.bool (sameB (oaR (crashD X.D ch).now).st zs))/\(∃k',k'<=k+5000/\Dev w' q Fq (rdK (crashD X.D ch) k'))/\Ch wx.heap.size Fq wx w':=by
 obtain ⟨f1,f2,_⟩:=h.fall ch;have h4:=h.i.jv.ok.n4;have hdn:=h.dn;have ho:=(rdK_ops (crashD X.D ch) k).1;have h0:(crashD X.D ch).ops=0:=rfl;refine (whole_any hd ((Well.new _:Well (crashD X.D ch)).mo (rdK_mo _ k)) (rdK_now _ k) ((rdK_n _ k).trans (fallD_n h ch).1) (by omega) f1 f2 a cap m zs hr (ha.imp id (fun ha k hk=>⟨by have:=ha k hk;omega,fun e=>by have:=hF k e;have:=ha k hk;omega⟩)) hm _ rfl).mono ?_;rintro e w' ⟨rfl,⟨k',hk',hd'⟩,hc⟩;exact ⟨rfl,⟨k+k',by omega,by rw [<-rdK_add];exact hd'⟩,hc⟩
end
theorem crash_two (D:Dv) (ch:List Int) (k:Nat):crashD (rdK (crashD D ch) k) []=crashD D ch:=by
 obtain ⟨h1,h2⟩:=rdK_sure (crashD D ch) k;unfold crashD at h1 h2 ⊢;rw [h1,h2];rfl
theorem sameB_self (l:List Int):sameB l l=true:=by simp [sameB]
theorem sameB_no {l m:List Int} (h:sameB l m=false):l≠m:=fun e=>by
 rw [e,sameB_self] at h;cases h
end Go.Proofs.YtaijfhadecennaaGreat.Oct.Sx
