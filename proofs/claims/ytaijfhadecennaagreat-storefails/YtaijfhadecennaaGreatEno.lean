/- Part of a proof. -/
import Derived.Test.YtaijfhadecennaaGreatSam
import Derived.Test.YtaijfhadecennaaGreatGb
import Derived.Test.YtaijfhadecennaaGreatR
import Derived.Deep.Slices
import Derived.ChangeSame
import Derived.ProofKit
import Derived.Deep.LoopGhost
import Derived.Deep.AppendLies
open Go.Proofs.Tryz
set_option maxHeartbeats 4000000
namespace Go.Proofs.YtaijfhadecennaaGreat.Oct.Sx
open Go.RowKit
section
variable {w:World} {n N:Nat}
theorem fmt_lv {w':World} {B s d:Nat} {X:St} {r:Rp} {L:List Int} (hf:Fmt n N (newD L) X r) (hs:∃F,Sto w' s d F X/\∀k,F k->B<=k):Lv w' B s d n 20 X 0 r [] [] []/\LvW n X 0 r []:=by
 have hS:X.S.r=0:=by rw [hf.S];rfl
 exact ⟨⟨hs,hf.i,hf.pl,hf.dn,by have:=hf.ops;exact jP this (by show 0+10<=20;omega),by rw [hf.since];exact jT _,by rw [hf.g];decide,hf.st,by rw [hf.rs];exact hS,fun y hy=>by cases hy⟩,
  ⟨hf.well,rfl,hf.zo,by rw [hf.S,hf.g];rfl,hf.rp.symm,hf.rs,hf.rc⟩⟩
theorem FR (h8:8<=n) (h4:n<=4096) (h8N:8<=N) (h4N:N<=4096):Calls prog 10 #[.int .i64 n,.int .i64 N] w fun e w'=>∃s d X r,e=.returned (.pointer (some ⟨s,0,none⟩))/\Fmt n N (newD (List.replicate (n*256) 0)) X r/\Lv w' w.heap.size s d n 20 X 0 r [] [] []/\LvW n X 0 r []/\Below w.heap.size w w':=by
 have hnw:=new_yes n w h8 h4;have hfm:=fun (wx:World) (dx:Nat) (Fx:Nat->Prop) (hd:Dev wx dx Fx (newD (List.replicate (n*256) 0)))=>Format_yes (N:=N) (n:=n) hd h8N h4N (by simp [newD]) (Well.new _) hd.1 (by show 0+5000<=_;omega) (by show 0+5000<=_;omega)
 clear h8 h4 h8N h4N;go_enter func10,ntmps10
 go_wp2_with (first
  |(go_at_call 20;refine hnw.mono ?_;rintro e w1 ⟨d,Fd,rfl,h1,h2,h3⟩
    have hf1:=hfm w1 d Fd h1;have H1:Hid (Below w.heap.size w w1/\∀k,Fd k->w.heap.size<=k):=⟨h2,h3⟩;clear hnw hfm h1 h2 h3)
  |(go_at_call 11;refine hf1.mono ?_;rintro e w2 ⟨s,X,r,rfl,h4,h5⟩
    have H2:Hid (StoO w1 w2 Fd s d X/\Fmt n N (newD (List.replicate (n*256) 0)) X r):=⟨h4,h5⟩;clear hf1 h4 h5))
 go_ret
 obtain ⟨h1,h2⟩:=H1.out;obtain ⟨h3,h4⟩:=H2.out;obtain ⟨F',h5,h6⟩:=h3.out;obtain ⟨h7,h8⟩:=h6.below h1.size h2;obtain ⟨h9,h10⟩:=fmt_lv h4 ⟨F',h5,h8⟩;exact ⟨s,d,X,r,rfl,h4,h9,h10,h1.trans h7⟩
theorem two_row (w:World):Row (w.alloc (.cells #[.int .u8 7,.int .u8 8] 5)) (some ⟨w.heap.size,0,none⟩) 2 [7,8]:=by
 refine ⟨fun z hz=>?_,jB _,by unfold maxLen;decide,.inr ⟨w.heap.size,0,rfl,fun i hi=>?_⟩⟩
 ·rcases List.mem_cons.1 hz with rfl|hz
  ·omega
  ·rw [List.mem_singleton.1 hz];omega
 ·have hi2:i<2:=hi;rw [cell_of_row _ _ _ _ _ (0,0) (heap_alloc_new w _)];obtain rfl|rfl:i=0\/i=1:=by omega
  ·rfl
  ·rfl
theorem field_S6 (a b c d e f g h:Int) (w:World):(Instr.field 29 (.agg #[.int .i64 a,.int .i64 b,.int .i64 c,.int .i64 d,.int .i64 e,.int .i64 f,.int .i64 g,.int .i64 h]) 6).run prog w=.ok (.int .i64 g) w:=by
 kernel_rfl
theorem field_S0 (a b c d e f g h:Int) (w:World):(Instr.field 29 (.agg #[.int .i64 a,.int .i64 b,.int .i64 c,.int .i64 d,.int .i64 e,.int .i64 f,.int .i64 g,.int .i64 h]) 0).run prog w=.ok (.int .i64 a) w:=by
 kernel_rfl
theorem StF.well {w w':World} {B s d n c:Nat} {F F':Nat->Prop} {X:St} {pl:Nat} {r:Rp} {T:List (Sp × Rp)} {last:List Int} {tr:List (List Int)} {zs:List Int} {E:Int} (h:StF w w' B s d n c F F' X pl r T last tr zs E) (hw:Well X.D) (hB:B<=w.heap.size) (hF:∀k,F k->B<=k):Below B w w'/\((E=6/\¬ned zs.length+ned ((n+7)/8)<=X.P.count 0/\Lv w' B s d n c X pl r T last tr)\/
  (E=0/\∃X' r',Lv w' B s d n (c+12000) X' (1-pl) r' [] zs []/\LvW n X' (1-pl) r' []/\X'.g=X.g+1)):=by
 refine ⟨(h.1.below hB hF).1,?_⟩;rcases h.2.2 with ⟨a,b,e,-⟩|⟨_,X',T',_,_,hb,hm,_⟩|⟨rfl,X',r',a1,-,a2,a3,a4,a5,a6,a7,a8,a9,-⟩
 ·exact .inl ⟨a,b,e⟩
 ·exact absurd hb (hw.not_bad hm)
 ·exact .inr ⟨rfl,X',r',a1,⟨hw.mo a2,rfl,a8,a4,a7,a6,a9⟩,a3⟩
set_option maxRecDepth 20000 in
theorem awake13 (w:World):Calls prog 9 #[] w fun e w'=>e=.returned (.bool true)/\Below w.heap.size w w':=by
 have hf6:=field_S6;have hf0:=field_S0;have hfr:=FR (w:=w) (n:=32) (N:=8) (by decide) (by decide) (by decide) (by decide);go_enter func9,ntmps9
 go_wp2_with (first
  |(go_at_call 10;refine hfr.mono ?_;rintro e w1 ⟨s,d,X,r,rfl,hf,hl,hv,hb⟩
    have H1:Hid (Fmt 32 8 (newD (List.replicate (32*256) 0)) X r/\Lv w1 w.heap.size s d 32 20 X 0 r [] [] []/\LvW 32 X 0 r []/\Below w.heap.size w w1):=⟨hf,hl,hv,hb⟩;clear hfr hf hl hv hb))
 obtain ⟨w1b,hw1b⟩:∃w1b,w1.alloc (.cells #[.int .u8 7,.int .u8 8] 5)=w1b:=⟨_,rfl⟩;have hbb:Below w1.heap.size w1 w1b:=by rw [<-hw1b];exact (Below.refl _ w1).alloc (jB _) _
 have hrow:Row w1b (some ⟨w1.heap.size,0,none⟩) 2 [7,8]:=by rw [<-hw1b];exact two_row w1
 have hlt:w1.heap.size<w1b.heap.size:=by rw [<-hw1b];simp
 rw [hw1b]
 have hcm:Calls prog 45 #[.pointer (some ⟨s,0,none⟩),spV (sup 0 0 0 0),.slice (some ⟨w1.heap.size,0,none⟩) 2 2] w1b fun e w'=>e=.returned (.int .i64 0)/\∃X' r',Below w.heap.size w w'/\Lv w' w.heap.size s d 32 12020 X' 1 r' [] [7,8] []/\LvW 32 X' 1 r' []/\X'.g=2:=by
  obtain ⟨hf,hl,hv,hb⟩:=H1.out;obtain ⟨F,h1,h2⟩:=hl.sto;refine (KE (hl.keep hbb) (h1.below hbb) h2 (some ⟨w1.heap.size,0,none⟩) 2 [7,8] hrow (.inr (fun k hk=>?_)) (by have:=hb.size;have:=hbb.size;omega) (by decide) (by decide)).mono ?_
  ·obtain ⟨x,e,hx⟩:=hk;cases e;subst hx;exact ⟨hlt,fun e=>by have h3:=h1.lt _ e;simp only at h3;omega⟩
  ·rintro e w' ⟨E,F',rfl,hE⟩;obtain ⟨g1,⟨_,hno,_⟩|⟨rfl,X',r',g2,g3,g4⟩⟩:=hE.well hv.well (by have:=hb.size;have:=hbb.size;omega) h2
   ·have h3:=hl.free hv;rw [hf.cl] at h3
    exact absurd (show ned ([7,8]:List Int).length+ned ((32+7)/8)<=X.P.count 0 by
     have e1:ned ([7,8]:List Int).length=1:=rfl;have e2:ned ((32+7)/8)=1:=rfl;omega) hno
   ·refine ⟨rfl,X',r',hb.trans ((hbb.mono hb.size).trans (g1.mono (jB _))),g2,g3,?_⟩;rw [g4,hf.g];rfl
 unfold spV sup at hcm;have HB:Hid (w.heap.size<=w1b.heap.size):=by have:=H1.out.2.2.2.size;have:=hbb.size;show _<=_;omega
 clear hw1b hbb hrow hlt
 go_wp2_with (first
  |(go_at_call 45;refine hcm.mono ?_;rintro e w2 ⟨rfl,X',r',hb2,hl2,hv2,hg2⟩
    obtain ⟨F2,hs2,hF2⟩:=hl2.sto;have hdv:=KQ hs2;obtain ⟨Fd,d1,d2,_⟩:=hs2.dev;have hcr:=FG d1 (by have:=hl2.since;omega) none 0 [] (row0 w2);have H2:Hid (Below w.heap.size w w2/\Lv w2 w.heap.size s d 32 12020 X' 1 r' [] [7,8] []/\LvW 32 X' 1 r' []/\X'.g=2):=⟨hb2,hl2,hv2,hg2⟩;clear hcm hb2 hl2 hv2 hg2 hs2 hF2 d1 d2)
  |(go_at_call 39;refine hdv.mono ?_;rintro e w' ⟨rfl,rfl⟩;clear hdv)
  |(go_at_call 40;refine hcr.mono ?_;rintro e w3 ⟨q,Fq,rfl,q1,q2,q3⟩
    have hfa:=H2.out.2.1.fall [];have hop:=Open_oa (N:=8) (n:=32) q1 (by decide) (by decide) (by have h1:=(H2.out.2.1.i.jv.crashed []).ok.sure;have h2:(crashD X'.D []).sure.length=X'.D.n*256:=(zX ..).trans H2.out.2.1.i.jv.ok.sure;have h3:=H2.out.2.1.dn;omega) (Well.new _) (H2.out.2.1.i.jv.crashed []).ok (by show 0<=_;omega) hfa.1 hfa.2.1;have H3:Hid (Below w2.heap.size w2 w3/\∀k,Fq k->w2.heap.size<=k):=⟨q2,q3⟩;clear hcr q1 q2 q3 hfa)
  |(go_at_call 12;refine hop.mono ?_;rintro e w4 ⟨t,X2,rfl,hO,hX⟩
    have H4:Hid (Lv w4 w.heap.size t q 32 25020 X2 1 r' [] [7,8] []/\LvW 32 X2 1 r' []/\X2.S.g=2/\Below w.heap.size w w4):=by
     obtain ⟨h1,h2,h3,h4⟩:=H2.out;obtain ⟨k1,k2⟩:=H3.out;obtain ⟨F',o1,o2⟩:=hO.out;have z1:=h1.size;have z2:=k1.size;obtain ⟨o3,o4⟩:=o2.below (B:=w.heap.size) (by omega) (fun k hk=>by have:=k2 k hk;omega);obtain ⟨r1,r2,_,r4⟩:=reopen_lv h2 h3 ⟨F',o1,o4⟩ hX (c':=25020) (by omega) (by rw [h4];decide);exact ⟨r1,r2,by rw [r4,h3.gs,h4],h1.trans ((k1.mono z1).trans (o3.mono (jB _)))⟩
    obtain ⟨F4,hs4,hF4⟩:=H4.out.1.sto;have hsu:=FP hs4;unfold spV at hsu;clear hop hO hX hs4 hF4)
  |(go_at_call 13;refine hsu.mono ?_;rintro e w5 ⟨rfl,hb5⟩
    have hby:=lvBytes (H4.out.1.keep hb5) H4.out.2.1 (by have:=H4.out.2.2.2.size;have:=hb5.size;omega) (by omega);have H5:Hid (Below w4.heap.size w4 w5):=hb5;clear hsu hb5)
  |(go_at_call 38;refine hby.mono ?_;rintro e w6 ⟨g,cp,X3,rfl,hob,hbb,hl6,hv6,hb6,hX3⟩
    obtain ⟨-,hrw⟩:=hob.row' hbb;obtain ⟨b',off',rfl,hce⟩:=hrw.2.2.2.resolve_left (by decide);have hce2:w6.cell? ⟨b',off'+1,none⟩=some (.int .u8 8):=hce 1 (by decide);have hcp:2<=cp:=hrw.2.1;obtain ⟨F6,hs6,hF6⟩:=hl6.sto;have hsu2:=FP hs6;have hg3:X3.S.g=2:=by rw [hX3];exact H4.out.2.2.1
    unfold spV at hsu2;rw [hg3] at hsu2;have H6:Hid (Below w.heap.size w w6):=H4.out.2.2.2.trans ((H5.out.mono H4.out.2.2.2.size).trans (hb6.mono (jB _)));rw [show ([7,8]:List Int).length=2 from rfl];clear hby hob hbb hl6 hv6 hb6 hX3 hrw hce hs6 hF6 hg3)
  |(go_at_call 13;refine hsu2.mono ?_;rintro e w7 ⟨rfl,hb7⟩
    have H7:Hid (Below w.heap.size w w7):=H6.out.trans (hb7.mono H6.out.size);clear hsu2 hb7))
 go_ret
 exact ⟨rfl,H7.out⟩
end
end Go.Proofs.YtaijfhadecennaaGreat.Oct.Sx
namespace Go.Proofs.YtaijfhadecennaaGreat.Oct
open Go.RowKit Go.ChangeShapes Go.WideShapes
structure Bx where
 a:Option Addr
 c:Nat
 z:List Int
def noBx:Bx:=⟨none,0,[]⟩
structure BxAt' (w:World) (b o:Nat) (d:Bx):Prop where
 c0:w.cell? ⟨b,o,none⟩=some (.slice d.a d.z.length d.c)
 row:Row w d.a d.c d.z
theorem BxAt'.below {w w':World} {b o:Nat} {d:Bx} (h:BxAt' w b o d) (k:Below w.heap.size w w'):BxAt' w' b o d:=
 ⟨(k.cell (p:=⟨b,o,none⟩) (block_lt_of_cell h.c0)).trans h.c0,h.row.below k⟩
def IsRws (w:World) (a:Option Addr) (cap:Nat) (l:List Bx):Prop:=
 l.length<=cap/\cap<=maxLen/\(l=[]\/∃b off,a=some ⟨b,off,none⟩/\∀i,i<l.length->BxAt' w b (off+i) (l.getD i noBx))
theorem IsRws.below {w w':World} {a:Option Addr} {cap:Nat} {l:List Bx} (h:IsRws w a cap l) (k:Below w.heap.size w w'):IsRws w' a cap l:=by
 obtain ⟨h1,h2,h3⟩:=h;refine ⟨h1,h2,?_⟩;rcases h3 with h3|⟨b,off,e,h4⟩
 ·exact .inl h3
 ·exact .inr ⟨b,off,e,fun i hi=>(h4 i hi).below k⟩
theorem row_lt {w:World} {a:Option Addr} {c:Nat} {zs:List Int} (h:Row w a c zs):zs=[]\/∀x,a=some x->x.block<w.heap.size:=by
 by_cases hz:zs=[]
 ·exact .inl hz
 ·rcases h.2.2.2 with e|⟨b,off,e,hc⟩
  ·exact absurd e hz
  ·refine .inr fun x hx=>?_
   rw [e] at hx;cases hx;have h0:0<zs.length:=List.length_pos_iff.2 hz;exact block_lt_of_cell (hc 0 h0)
theorem cells28r:prog.cellsOf 32=1:=by kernel_rfl
theorem YH {H:Type} {enc:TypeId × Value->H} {w:World} {base fuel:Nat} {held:Bool} {v:Value} {x:DataW H × List MemPlace} (h:DataW.trod enc prog w base (fun _=>true) held fuel 32 [v]=some x):
  ∃a ys cap,v=.slice a ys.length cap/\Row w a cap ys/\(a=none->cap=0):=by
 rcases open_ints underlying32 underlying5 (by kernel_rfl) h with ⟨hcs,_⟩|⟨x,l,c,zs,hcs,_,hl,hm,hz,_,hcell,hwz⟩
 ·simp at hcs;exact ⟨none,[],0,hcs,⟨fun z hz=>by simp at hz,jB _,by simp [maxLen],.inl rfl⟩,fun _=>rfl⟩
 ·simp at hcs;have hr:IsRow .u8 w (some x) l c zs:=.inr ⟨_,rfl,hl,hm,by simpa using hz,hcell,hwz⟩;obtain ⟨ys,h1,h2⟩:=hr.row;exact ⟨some x,ys,c,by rw [hcs,h1],h2,fun e=>by cases e⟩
set_option maxRecDepth 20000 in
theorem open_rws {H:Type} {enc:TypeId × Value->H} {w:World} {base fuel:Nat} {held:Bool} {a:Option Addr} {len cap:Nat} {x:DataW H × List MemPlace} (h:DataW.trod enc prog w base (fun _=>true) held fuel 51 [.slice a len cap]=some x):
  ∃l:List Bx,len=l.length/\IsRws w a cap l:=by
 rcases Deep.open_slice underlying51 h with ⟨hcs,_⟩|⟨x,l,c,m,n,D,Pl,hcs,_,hl,hm,hmm,_,hx⟩
 ·simp at hcs;obtain ⟨rfl,rfl,rfl⟩:=hcs;exact ⟨[],rfl,jB _,by simp [maxLen],.inl rfl⟩
 ·simp at hcs;obtain ⟨rfl,rfl,rfl⟩:=hcs;have hlm:len<=m:=by rw [hmm];split<;>omega
  have each:∀i,i<len->∃d:Bx,∀(b off:Nat),x=⟨b,off,none⟩->BxAt' w b (off+i) d:=by
   intro i hi;obtain ⟨cs',h1,h2⟩:=hx i (by omega);rw [cells28r] at h1;obtain ⟨_,hlen,hcell⟩:=World.cells?_some h1
   match cs',hlen with
   |[v],_=>
    obtain ⟨a,ys,cap',rfl,hr,_⟩:=YH h2;refine ⟨⟨a,cap',ys⟩,fun b off e=>?_⟩;subst e;have q:((⟨b,off,none⟩:Addr).add (i*1)).add 0=⟨b,off+i,none⟩:=by rw [Addr.add_lit,Addr.add_lit,Nat.mul_one];rfl
    have e0:=hcell 0 (by omega);rw [q] at e0;exact ⟨by simpa using e0,hr⟩
  have:Inhabited Bx:=⟨noBx⟩;obtain ⟨f,hf⟩:=Deep.choose_lt each;refine ⟨(List.range len).map f,by simp,by simpa using hl,hm,?_⟩;by_cases h0:len=0
  ·exact .inl (by simp [h0])
  ·refine .inr ?_;obtain ⟨b,off,spot⟩:=x
   have hspot:spot=none:=by
    obtain ⟨cs',h1,h2⟩:=hx 0 (by omega);rw [cells28r] at h1;obtain ⟨_,hlen,hcell⟩:=World.cells?_some h1;have e0:=hcell 0 (by omega);obtain ⟨v,hv⟩:∃v,w.cell? (((⟨b,off,spot⟩:Addr).add (0*1)).add 0)=some v:=⟨_,e0.trans (jC (by omega))⟩
    simpa [Addr.add] using World.cell?_spot hv
   subst hspot;refine ⟨b,off,rfl,fun i hi=>?_⟩;simp at hi;have:=hf i hi b off rfl;rw [show ((List.range len).map f).getD i noBx=f i by simp [hi]];exact this
def smB (l:List Bx):Bool:=decide (l.length<=40)&&l.all fun b=>decide (b.z.length<=1500)
theorem smB_at {l:List Bx} (h:smB l=true) {i:Nat} (hi:i<l.length):(l.getD i noBx).z.length<=1500:=by
 unfold smB at h;rw [jO,List.all_eq_true] at h;have:=h.2 (l.getD i noBx) (by rw [jA,jC hi];exact qB _);exact jZ this
theorem sm_take {l:List Bx} {k:Nat} (hk:k<l.length) (h:(l.take k).all (fun d=>decide (d.z.length<=1500))=true) (hd:(l.getD k noBx).z.length<=1500):(l.take (k+1)).all (fun d=>decide (d.z.length<=1500))=true:=by
 have e:l.take (k+1)=l.take k++[l.getD k noBx]:=by
  rw [xM,jA,jC hk];rfl
 rw [e,List.all_append,h,xP]
 simpa using hd
theorem small_any (a:Option Addr) (cap:Nat) (l:List Bx) (w:World) (h:IsRws w a cap l):
  Calls prog 36 #[.slice a l.length cap] w fun e w'=>e=.returned (.bool (smB l))/\w=w':=by
 obtain ⟨h1,h2,h3⟩:=h;unfold maxLen at h2;have ht:∀(b:Bool),b=smB l->Ending.returned (.bool b)=.returned (.bool (smB l)):=fun b h=>by rw [h]
 by_cases hn:40<l.length
 ·go_enter func36,ntmps36
  go_wp2;go_ret
  exact ⟨ht _ (by simp [smB];omega),rfl⟩
 ·have HA:Hid (l=[]\/∃b off,a=some ⟨b,off,none⟩/\∀i,i<l.length->BxAt' w b (off+i) (l.getD i noBx)):=h3;clear h3;go_enter func36,ntmps36
  go_wp2;go_loop [3] (fun i=>∃k:Nat,k<=l.length/\i=.int .i64 k/\Hid ((l.take k).all (fun d=>decide (d.z.length<=1500))=true)) (fun i=>l.length-(intOf i).toNat)
  case atStart=>exact ⟨0,jT _,rfl,rfl⟩
  case round=>
   obtain ⟨k,hk,rfl,hall⟩:=hrel;by_cases hlt:k<l.length
   ·obtain ⟨b,off,rfl,hd⟩:=HA.out.resolve_left (by intro e;rw [e] at hlt;exact absurd hlt (by simp));have hdk:=hd k hlt;have c4:=hdk.c0;have hbm:(l.getD k noBx).z.length<=maxLen:=jP hdk.row.2.1 hdk.row.2.2.1;unfold maxLen at hbm;clear hdk hd;by_cases h200:(l.getD k noBx).z.length<=1500
    ·have R:Hid ((l.take (k+1)).all (fun d=>decide (d.z.length<=1500))=true):=sm_take hlt hall.out h200;obtain ⟨bl,hbl⟩:∃bl,(l.getD k noBx).z.length=bl:=⟨_,rfl⟩;rw [hbl] at c4 h200 hbm;clear hbl hall;go_wp2;go_round
     case rel=>exact ⟨k+1,by omega,by go_num,R⟩
     case measure=>simp [intOf];omega
    ·have hf:smB l=false:=by
      unfold smB
      have:l.all (fun d=>decide (d.z.length<=1500))=false:=by
       rw [List.all_eq_false];exact ⟨l[k],qB _,by rw [jA,jC hlt] at h200;simpa using h200⟩
      rw [this,Bool.and_false]
     obtain ⟨bl,hbl⟩:∃bl,(l.getD k noBx).z.length=bl:=⟨_,rfl⟩;rw [hbl] at c4 h200 hbm;have h200':1500<bl:=by omega
     clear hbl hall h200;go_wp2;go_ret
     exact ⟨ht _ hf.symm,rfl⟩
   ·have hf:smB l=true:=by
     unfold smB;rw [jO];refine ⟨by simp;omega,?_⟩;have:=hall.out
     rwa [qR (by omega)] at this
    go_wp2;go_ret
    exact ⟨ht _ hf.symm,rfl⟩
end Go.Proofs.YtaijfhadecennaaGreat.Oct
namespace Go.Proofs.YtaijfhadecennaaGreat.Oct.Sx
open Go.RowKit
theorem In.dev {D E:Dv} {N:Nat} {L:List Fr} {P:List Int} {S:Sp} {pl:Nat} {C:List Int} {g:Int} {r:Rp} {T:List (Sp × Rp)} (h:In D N L P S pl C g r T) (hj:Jv E S pl r T) (hn:E.n=D.n) (hw:E.now=D.now):In E N L P S pl C g r T:=
 {jv:=hj,fi:=h.fi.now hj.ok hn hw,nd:=h.nd,pi:=by rw [hn];exact h.pi,rc:=h.rc,tc:=fun y hy z hz=>by rw [hn];exact h.tc y hy z hz,gs:=h.gs,gt:=h.gt,sp:=by rw [hn];exact h.sp}
section
variable {w:World} {B s d n c:Nat} {X:St} {pl:Nat} {r:Rp} {T:List (Sp × Rp)} {last:List Int} {tr:List (List Int)}
theorem Lv.device (h:Lv w B s d n c X pl r T last tr):Calls prog 39 #[.pointer (some ⟨s,0,none⟩)] w fun e w'=>e=.returned (.pointer (some ⟨d,0,none⟩))/\w=w':=by
 obtain ⟨F,h1,_⟩:=h.sto;exact KQ h1
theorem Lv.crash (h:Lv w B s d n c X pl r T last tr) (hc:c<=1000000) (a:Option Addr) (cap:Nat) (ch:List Int) (hr:Row w a cap ch):Calls prog 40 #[.pointer (some ⟨d,0,none⟩),.slice a ch.length cap] w fun e w'=>∃q F',e=.returned (.pointer (some ⟨q,0,none⟩))/\Dev w' q F' (crashD X.D ch)/\Below w.heap.size w w'/\∀k,F' k->w.heap.size<=k:=by
 obtain ⟨F,h1,_⟩:=h.sto;obtain ⟨Fd,d1,_⟩:=h1.dev;have:=h.since;exact FG d1 (by omega) a cap ch hr
theorem fallD_n (h:Lv w B s d n c X pl r T last tr) (ch:List Int):(crashD X.D ch).n=n/\(crashD X.D ch).ok:=by
 have ok:=FH h.i.jv.ok ch;refine ⟨?_,ok⟩;have h1:=ok.sure;have h2:(crashD X.D ch).sure.length=X.D.n*256:=(zX ..).trans h.i.jv.ok.sure;have h3:=h.dn;omega
end
theorem gI (D:Dv):∀j,(rdK D j).now=D.now
 |0=>rfl
 |j+1=>(QT _).trans (gI D j)
section
variable {w:World} {B s d n c:Nat} {X:St} {pl:Nat} {r:Rp} {T:List (Sp × Rp)} {last:List Int} {tr:List (List Int)}
theorem crashWhole (h:Lv w B s d n c X pl r T last tr) (ch:List Int) {wx:World} {q k:Nat} {Fq:Nat->Prop} (hd:Dev wx q Fq (rdK (crashD X.D ch) k)) (hk:k<=1000000) (hF:∀k,Fq k->B<=k) (hB:B<=wx.heap.size) (a:Option Addr) (cap:Nat) (zs:List Int) (hr:Row wx a cap zs) (ha:zs=[]\/∀k,obl a k->k<B) (m:Nat) (hm:zs.length=m):
  Calls prog 21 #[.pointer (some ⟨q,0,none⟩),.slice a m cap] wx fun e w'=>e=.returned (.bool (sameB (oaR (crashD X.D ch).now).st zs))/\(∃k',k'<=k+5000/\Dev w' q Fq (rdK (crashD X.D ch) k'))/\Ch wx.heap.size Fq wx w':=by
 obtain ⟨f1,f2,_⟩:=h.fall ch;have h4:=h.i.jv.ok.n4;have hdn:=h.dn;have ho:=(uD (crashD X.D ch) k).1;have h0:(crashD X.D ch).ops=0:=rfl;refine (whole_any hd ((Well.new _:Well (crashD X.D ch)).mo (gJ _ k)) (gI _ k) ((UJ _ k).trans (fallD_n h ch).1) (by omega) f1 f2 a cap m zs hr (ha.imp id (fun ha k hk=>⟨by have:=ha k hk;omega,fun e=>by have:=hF k e;have:=ha k hk;omega⟩)) hm _ rfl).mono ?_;rintro e w' ⟨rfl,⟨k',hk',hd'⟩,hc⟩;exact ⟨rfl,⟨k+k',by omega,by rw [<-gK];exact hd'⟩,hc⟩
end
theorem sameB_self (l:List Int):sameB l l=true:=by simp [sameB]
theorem sameB_no {l m:List Int} (h:sameB l m=false):l≠m:=fun e=>by
 rw [e,sameB_self] at h;cases h
end Go.Proofs.YtaijfhadecennaaGreat.Oct.Sx
namespace Go.Proofs.YtaijfhadecennaaGreat.Oct.Sx
open Go.RowKit
def bxV (b:Bx):Value:=.slice b.a b.z.length b.c
theorem infoX:(prog.info? 32).map (fun i=>(i.zero,i.size,i.bytes))=some (some (.slice none 0 0),1,24):=by kernel_rfl
def OwnX (base:Nat) (w:World) (v:Value) (l:List Bx):Prop:=w.ownsRow base 32 1 v l.length (l.map bxV)
theorem OwnX.nil (base:Nat) (w:World):OwnX base w (.slice none 0 0) []:=World.ownsRow_nil _ _ _ _
theorem OwnX.lt {base:Nat} {w:World} {v:Value} {l:List Bx} (h:OwnX base w v l) (g:Nat) (hg:v.ownBlock=some g):base<=g/\g<w.heap.size:=World.ownsRow.lt h g hg
theorem OwnX.below {base:Nat} {w w':World} {v:Value} {l:List Bx} (h:OwnX base w v l) (hb:Below w.heap.size w w'):OwnX base w' v l:=yQ h fun g hg=>hb.block g (h.lt g hg).2
theorem OwnX.rws {base:Nat} {w:World} {v:Value} {l:List Bx} (h:OwnX base w v l) (hr:∀b∈l,Row w b.a b.c b.z):∃a cap,v=.slice a l.length cap/\IsRws w a cap l:=by
 obtain ⟨_,⟨rfl,h0⟩|⟨g,cap,cur,rfl,hg,hc,hn,hm,hs,ht⟩⟩:=id h
 ·exact ⟨none,0,by rw [h0],by omega,by simp [maxLen],.inl (qE h0)⟩
 ·refine ⟨_,cap,rfl,hn,hm,.inr ⟨g,0,rfl,fun i hi=>?_⟩⟩;have h1:=World.ownsRow.cellAt h i (by omega);have hm:l.getD i noBx∈l:=by rw [jA,jC hi];exact qB _
  refine ⟨?_,hr _ hm⟩;rw [qT,h1];simp [hi,bxV]
theorem append_x {w:World} {ops:Array Oper} {rest:List Oper} {o:Oper} {a:Act} {Q:Exit->Act->World->Prop} (hgd:o.guard=none) (s x:Operand)
  (ho:o.op=.call {callee:=.builtin .append,args:= #[s,x],argTypes:= #[51,51]})
  (base:Nat) (v:Value) (l:List Bx) (hs:a.eval s=v) (hown:OwnX base w v l) (ad:Addr) (c:Nat) (b:Bx) (hx:a.eval x=.slice (some ad) 1 c)
  (hc:w.cell? (ad.add 0)=some (bxV b)) (hsz:l.length<=1000) (hbase:base<=w.heap.size)
  (h:∀g cap w',OwnX base w' (.slice (some ⟨g,0,none⟩) (l.length+1) cap) (l++[b])->Ch w.heap.size (fun k=>v.ownBlock=some k) w w'->(v.ownBlock=some g\/g=w.heap.size)->wpList prog ops Q rest (a.put o.dst (.slice (some ⟨g,0,none⟩) (l.length+1) cap)) w'):wpList prog ops Q (o::rest) a w:=by
 obtain ⟨i0,hi,hz0,hz1,hz2⟩:=info_parts infoX;refine wpList_append_lies (w:=w) hgd s x 51 ho base 32 i0 (.slice none 0 0) 1 24 underlying51 hi hz0 hz1 hz2 rfl (by decide) v _ _ hs hown ad 1 c [bxV b] hx rfl ?_ ?_ (by decide) (by unfold maxLen;omega) (by omega) hbase _ rfl ?_
 ·intro j u hj
  match j,hj with
  |0,hj=>simp at hj;rw [<-hj];exact hc
 ·intro u hu;rw [List.mem_singleton.1 hu];rfl
 ·intro g cap w' h1 h2 h3 _;refine h g cap w' ?_ ((Ch.refl _ _ w).grown h2 (jB _) (fun k hk=>.inr hk)) h3;unfold OwnX;rw [jN,qI];exact h1
section
variable {w:World} {B s d n c:Nat} {X:St} {pl:Nat} {r:Rp} {T:List (Sp × Rp)} {last:List Int} {tr:List (List Int)}
theorem Lv.outcomes (h:Lv w B s d n c X pl r T last tr) (hB:B<=w.heap.size) (a:Option Addr) (cap:Nat) (l:List Int) (hr:Row w a cap l) (hnil:a=none->cap=0) (m:Nat) (hm:l.length=m) (hsz:X.D.out.length+m<=1000000):Calls prog 43 #[.pointer (some ⟨d,0,none⟩),.slice a m cap] w fun e w'=>e=.returned (.tuple #[])/\Lv w' B s d n c {X with D:=outD X.D l} pl r T last tr/\Below B w w':=by
 subst hm;obtain ⟨F,k1,k2⟩:=h.sto;obtain ⟨Fd,d1,d2,d3⟩:=k1.dev;refine (gT d1 a cap l hr hnil hsz).mono ?_;rintro e w' ⟨rfl,Fd',hd,st⟩;obtain ⟨F',s1,s2⟩:=d3 w' _ Fd' hd rfl st;obtain ⟨b1,b2⟩:=s2.below hB k2;exact ⟨rfl,⟨⟨F',s1,b2⟩,In.dev h.i (h.i.jv.outD hr.1) rfl rfl,h.pl,h.dn,h.ops,h.since,h.g,h.st,h.rr,h.tr⟩,b1⟩
set_option maxRecDepth 20000 in
theorem stands_any (h:Lv w B s d n c X pl r T last tr) (ch:List Int) {w0 wx:World} {q:Nat} {Fq:Nat->Prop} (hd:Dev wx q Fq (crashD X.D ch)) (hF:∀k,Fq k->w0.heap.size<=k) (hb:Below w0.heap.size w0 wx) (hBB:B<=w0.heap.size)
  (a:Option Addr) (cap:Nat) (hr:Row w0 a cap last) (ha:last=[]\/∀k,obl a k->k<B) (m:Nat) (hm:last.length=m) (aT:Option Addr) (capT:Nat) (TR:List Bx) (nT:Nat) (hT:IsRws w0 aT capT TR) (hTn:TR.length=nT) (hn:nT<=50) (hrow:∀b∈TR,b.z=[]\/∀k,obl b.a k->k<B) (htr:∀z∈tr,∃i,i<nT/\(TR.getD i noBx).z=z):
  Calls prog 44 #[.pointer (some ⟨q,0,none⟩),.slice a m cap,.slice aT nT capT] wx fun e w'=>e=.returned (.bool true)/\Ch wx.heap.size Fq wx w':=by
 obtain ⟨st,hst⟩:∃st,(oaR (crashD X.D ch).now).st=st:=⟨_,rfl⟩
 have hfall:st=last\/st∈tr:=by
  rw [<-hst];rcases (h.fall ch).2.2 with e|⟨_,e⟩
  ·exact .inl e
  ·exact .inr e
 have hFB:∀k,Fq k->B<=k:=fun k hk=>jP hBB (hF k hk)
 have hwl:=crashWhole (k:=0) h ch hd (by omega) hFB (jP hBB hb.size) a cap last (hr.below hb) ha m hm;have hwl2:=fun (wy:World) (k:Nat) (hdy:Dev wy q Fq (rdK (crashD X.D ch) k)) (hk:k<=1000000) (hby:Below w0.heap.size w0 wy) (b:Bx) (hbm:b∈TR) (hrb:Row w0 b.a b.c b.z) (mb:Nat) (hmb:b.z.length=mb)=>crashWhole h ch hdy hk hFB (jP hBB hby.size) b.a b.c b.z (hrb.below hby) (hrow b hbm) mb hmb
 rw [hst] at hwl hwl2;have HC:Hid (∀wy,Ch wx.heap.size Fq wx wy->Below w0.heap.size w0 wy):=fun wy hc=>hb.trans ((hc.mono hb.size (fun _ _ e=>e)).below hF)
 have HT:Hid (IsRws w0 aT capT TR/\TR.length=nT/\st=st):=⟨hT,hTn,rfl⟩;have HF:Hid (st=last\/st∈tr):=hfall;have HTR:Hid (∀z∈tr,∃i,i<nT/\(TR.getD i noBx).z=z):=htr;have hc1:=hT.1;have hc2:=hT.2.1;unfold maxLen at hc2;rw [hTn] at hc1;obtain ⟨b0,hb0⟩:∃b,sameB st last=b:=⟨_,rfl⟩;rw [hb0] at hwl;have HB0:Hid (sameB st last=b0):=hb0;clear hb0 hT hTn hfall htr hr ha hm hst hb hd;cases b0 with
 |true=>
  go_enter func44,ntmps44
  go_wp2_with (go_at_call 21;refine hwl.mono ?_;clear hwl;rintro e w1 ⟨rfl,-,hc⟩;have H1:Hid (Ch wx.heap.size Fq wx w1):=hc;clear hc)
  go_ret
  exact ⟨rfl,H1.out⟩
 |false=>
  go_enter func44,ntmps44
  go_wp2_with (go_at_call 21;refine hwl.mono ?_;clear hwl;rintro e w1 ⟨rfl,⟨k1,hk1,hd1⟩,hc⟩;have H1:Hid (k1<=5000/\Dev w1 q Fq (rdK (crashD X.D ch) k1)/\Ch wx.heap.size Fq wx w1):=⟨by omega,hd1,hc⟩;clear hc hk1 hd1)
  go_loopg [7] nT (fun gh vi wr=>∃i k:Nat,i<=nT/\gh=nT-i/\vi=.int .i64 (i:Int)/\Hid (k<=5000+5000*i/\Dev wr q Fq (rdK (crashD X.D ch) k)/\Ch wx.heap.size Fq wx wr/\∀j,j<i->st≠(TR.getD j noBx).z))
  case atStart=>exact ⟨0,k1,jT _,rfl,rfl,H1.out.1,H1.out.2.1,H1.out.2.2,fun j hj=>absurd hj (Nat.not_lt_zero j)⟩
  case round=>
   clear H1;obtain ⟨i,k,hi,hgk,rfl,HK⟩:=hrel;have HGK:Hid (gk=nT-i):=hgk;clear hgk;by_cases hin:i<nT
   ·obtain ⟨bo,oo,hao,hbo⟩:∃b off,aT=some ⟨b,off,none⟩/\∀i,i<TR.length->BxAt' w0 b (off+i) (TR.getD i noBx):=HT.out.1.2.2.resolve_left (fun e=>by have:=HT.out.2.1;rw [e] at this;simp at this;omega);subst hao;have hlt:i<TR.length:=by have:=HT.out.2.1;omega
    have hat:=hbo i hlt;have hmem:TR.getD i noBx∈TR:=by rw [jA,jC hlt];exact qB _
    have hbr:=HC.out wr HK.out.2.2.1;obtain ⟨z,hz⟩:∃z,TR.getD i noBx=z:=⟨_,rfl⟩;have HZ:Hid (TR.getD i noBx=z):=hz;rw [hz] at hat hmem;have hw2:=hwl2 wr k HK.out.2.1 (by have:=HK.out.1;omega) hbr z hmem hat.row _ rfl;have hc0:=(hat.below hbr).c0;obtain ⟨zl,hzl⟩:∃m,z.z.length=m:=⟨_,rfl⟩;rw [hzl] at hw2 hc0;obtain ⟨b1,hb1⟩:∃b,sameB st z.z=b:=⟨_,rfl⟩;rw [hb1] at hw2;have HB1:Hid (sameB st z.z=b1):=hb1;have hic:i<capT:=by omega
    clear hbo hat hmem hbr hz hzl hb1 hlt;cases b1 with
    |true=>
     go_wp2_with (go_at_call 21;refine hw2.mono ?_;clear hw2;rintro e w3 ⟨rfl,-,hc⟩;have H3:Hid (Ch wx.heap.size Fq wx w3):=HK.out.2.2.1.trans (hc.mono HK.out.2.2.1.size (fun _ _ e=>e));clear hc)
     go_ret
     exact ⟨rfl,H3.out⟩
    |false=>
     go_wp2_with (go_at_call 21;refine hw2.mono ?_;clear hw2;rintro e w3 ⟨rfl,⟨k3,hk3,hd3⟩,hc⟩
                  have H3:Hid (k3<=5000+5000*(i+1)/\Dev w3 q Fq (rdK (crashD X.D ch) k3)/\Ch wx.heap.size Fq wx w3/\∀j,j<i+1->st≠(TR.getD j noBx).z):=⟨by have:=HK.out.1;omega,hd3,HK.out.2.2.1.trans (hc.mono HK.out.2.2.1.size (fun _ _ e=>e)),fun j hj=>by
                   by_cases e:j=i
                   ·rw [e,HZ.out];exact sameB_no HB1.out
                   ·exact HK.out.2.2.2 j (by omega)⟩
                  clear hc hk3 hd3)
     go_roundg (nT-(i+1))
     case rel=>exact ⟨i+1,k3,by omega,rfl,by go_num,H3.out⟩
     case measure=>have:=HGK.out;omega
   ·have hin':i=nT:=by omega
    subst hin';exfalso;rcases HF.out with e|e
    ·exact sameB_no HB0.out e
    ·obtain ⟨j,hj,hz⟩:=HTR.out _ e;exact HK.out.2.2.2 j hj hz.symm
theorem crashWhole2 (h:Lv w B s d n c X pl r T last tr) (ch:List Int) {wx:World} {q k:Nat} {Fq:Nat->Prop} (hd:Dev wx q Fq (rdK (crashD X.D ch) k)) (hk:k<=1000000) (a:Option Addr) (cap:Nat) (zs:List Int) (hr:Row wx a cap zs) (ha:zs=[]\/∀k,obl a k->k<wx.heap.size/\¬Fq k) (m:Nat) (hm:zs.length=m):
  Calls prog 21 #[.pointer (some ⟨q,0,none⟩),.slice a m cap] wx fun e w'=>e=.returned (.bool (sameB (oaR (crashD X.D ch).now).st zs))/\Ch wx.heap.size Fq wx w':=by
 obtain ⟨f1,f2,_⟩:=h.fall ch;have h4:=h.i.jv.ok.n4;have hdn:=h.dn;have ho:=(uD (crashD X.D ch) k).1;have h0:(crashD X.D ch).ops=0:=rfl;refine (whole_any hd ((Well.new _:Well (crashD X.D ch)).mo (gJ _ k)) (gI _ k) ((UJ _ k).trans (fallD_n h ch).1) (by omega) f1 f2 a cap m zs hr ha hm _ rfl).mono ?_;rintro e w' ⟨rfl,-,hc⟩;exact ⟨rfl,hc⟩
end
end Go.Proofs.YtaijfhadecennaaGreat.Oct.Sx
