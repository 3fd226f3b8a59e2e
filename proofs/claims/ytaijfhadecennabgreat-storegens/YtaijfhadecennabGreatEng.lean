/- Part of a proof. -/
import Derived.Test.YtaijfhadecennabGreatEmw
import Derived.Test.YtaijfhadecennabGreatEnc
import Derived.Test.YtaijfhadecennabGreatIq
import Derived.Test.YtaijfhadecennabGreatBb
import Derived.Laws.BytesArg
import Derived.Lib.Strings
import Derived.Test.YtaijfhadecennabGreatEad
import Derived.Test.YtaijfhadecennabGreatRn
import Derived.RegionTactic
import Derived.ChangeAlike
import Derived.Defers
import Derived.Recover
open Go.Proofs.Tryz
set_option maxHeartbeats 4000000
namespace Go.Proofs.YtaijfhadecennabGreat.Oct.Sx
open Go.RowKit
theorem rea_iff {n:Nat} {A F:List Int} (h:CtOk (A++F)) (hn:∀z∈A++F,z<(n:Int)) {z:Int}:z∈rsB (reaL n [] (natL A) (natL F)) n↔z∈A++F:=by
 constructor
 ·exact fun hz=>(fJ h z hz).2
 ·intro hz;have h2:=yR h z hz;have h3:=hn z hz;refine (UN n).2 ⟨z.toNat,by omega,by omega,?_⟩;rw [ZH (by omega)];rcases List.mem_append.1 hz with h4|h4
  ·have:z.toNat∈natL A:=List.mem_map.2 ⟨z,h4,rfl⟩;simp [this]
  ·have:z.toNat∈natL F:=List.mem_map.2 ⟨z,h4,rfl⟩;simp [this]
structure Fmt (n N:Nat) (D0:Dv) (X:St) (r:Rp):Prop where
 i:In X.D X.N X.L X.P X.S 0 X.C X.g r []
 pl:X.pl=0
 well:Well X.D
 since:X.D.since=[]
 dn:X.D.n=n
 ops:X.D.ops<=D0.ops+10
 fr:X.N=N
 g:X.g=1
 S:X.S=sup 1 n 0 (hd0 X.C)
 rs:r.s=X.S
 st:r.st=[]
 zo:∀k,k<n->X.P.getD k 0=0\/X.P.getD k 0=1
 cl:X.C.length=ned ((n+7)/8)
 rp:r.pg.length=X.C.length
 rc:∀z,z∈r.pg↔z∈X.C
 C:X.C=tkG (ned ((n+7)/8)) (newS n)
 P:X.P=trS 1 0 (tkS (ned ((n+7)/8)) (newS n))
section
variable {w:World} {d N n:Nat} {Fd:Nat->Prop} {D0:Dv}
set_option maxRecDepth 20000 in
theorem Format_yes (h:Dev w d Fd D0) (h8N:8<=N) (h4N:N<=4096) (hn:D0.n=n) (hw:Well D0) (hok:D0.ok) (hops:D0.ops+5000<=1000000000) (hsi:D0.since.length+5000<=1000000):
  Calls prog 50 #[.pointer (some ⟨d,0,none⟩),.int .i64 N] w fun e w'=>∃s X r,e=.returned (.tuple #[.pointer (some ⟨s,0,none⟩),.int .i64 0])/\StoO w w' Fd s d X/\Fmt n N D0 X r:=by
 have h8:8<=n:=by rw [<-hn];exact hok.n8
 have h4:n<=4096:=by rw [<-hn];exact hok.n4
 have hp:=gR h N h8N h4N;have HK:Hid (D0.n=n/\8<=n/\n<=4096/\Well D0/\D0.ok/\D0.ops+5000<=1000000000/\D0.since.length+5000<=1000000):=⟨hn,h8,h4,hw,hok,hops,hsi⟩;clear h hn h8 h4 hw hok hops hsi h8N h4N;have hmf:∀(fn:Fn) (first cap:Array Value) (w:World),(Instr.makeFunc fn first cap).run prog w=.ok (.func fn first cap) w:=fun _ _ _ _=>rfl
 go_enter func50,ntmps50
 go_upto_region 8 with (first
  |(go_at_call 36;refine hp.mono ?_;rintro e w1 ⟨p,F1,rfl,h1,h2,h3,h4⟩
    have hpg:=JP h1;rw [HK.out.1] at hpg;have hsn:=Sps.new_yes n w1 HK.out.2.1 HK.out.2.2.1;have H1:Hid (Pool w1 p d F1 D0 N []/\Below w.heap.size w w1/\(∀k,F1 k->Fd k\/w.heap.size<=k)):=⟨h1,h2,h3⟩;clear hp h1 h2 h3 h4)
  |(go_at_call 39;refine hpg.mono ?_;rintro e w' ⟨rfl,rfl⟩;clear hpg)
  |(go_at_call 77;refine hsn.mono ?_;rintro e w2 ⟨sp,F2,rfl,k1,k2,k3⟩
    have H2:Hid (Sps.Spa w2 sp F2 (newS n)/\Below w1.heap.size w1 w2/\∀k,F2 k->w1.heap.size<=k):=⟨k1,k2,k3⟩;clear hsn k1 k2 k3))
 obtain ⟨w3,hw3⟩:∃w3,w2.alloc (Obj.cells #[Value.pointer (some {block:=d,off:=0}),Value.pointer (some {block:=p,off:=0}),Value.pointer (some {block:=sp,off:=0}),Value.int IntKind.i64 0,Value.int IntKind.i64 0,Value.int IntKind.i64 0,Value.int IntKind.i64 0,Value.int IntKind.i64 0,Value.int IntKind.i64 0,Value.int IntKind.i64 0,Value.int IntKind.i64 0,Value.int IntKind.i64 0,Value.slice none 0 0,Value.int IntKind.i64 0,Value.pointer none,Value.map none] 91)=w3:=⟨_,rfl⟩;rw [hw3];obtain ⟨s,hs⟩:∃s,w2.heap.size=s:=⟨_,rfl⟩
 have H3:Hid (∃lab,StoC w3 s d p sp none 0 lab ⟨D0,N,[],newS n,sp0,0,[],0⟩/\LbC w w3 Fd lab):=by
  show ∃lab,_
  classical
  obtain ⟨h1,h2,h3⟩:=H1.out;obtain ⟨k1,k2,k3⟩:=H2.out;have l1:=h1.lt;have l2:=zM k1;have hb:Below w2.heap.size w2 w3:=by rw [<-hw3];exact (Below.refl _ w2).alloc (jB _) _
  have hz:=k2.size;have hz2:=h2.size;have hc:w3.heap[s]?=some (.cells (stC d p sp sp0 0 (.slice none 0 0) 0) 91 (0,0)):=by rw [<-hw3,<-hs];exact heap_alloc_new w2 _
  have n1:∀k,F2 k->¬F1 k:=fun k a b=>by have:=k3 k a;have:=l1 k b;omega
  have ns1:¬F1 s:=fun e=>by have:=l1 s e;omega
  have ns2:¬F2 s:=fun e=>by have:=l2 s e;omega
  refine ⟨fun k=>if F1 k then 1 else if F2 k then 2 else if k=s then 0 else 10,⟨hc,?_,⟨F1,(h1.below k2).below hb,fun k hk=>if_pos hk⟩,⟨F2,yZ k1 hb.size (fun k hk=>hb.block k (l2 k hk)),fun k hk=>?_⟩,⟨rfl,.inl ⟨rfl,rfl⟩⟩,fun k hk=>?_⟩,⟨fun k hk=>?_,?_⟩⟩
  ·show (if F1 s then 1 else if F2 s then 2 else if s=s then 0 else 10)=0;rw [if_neg ns1,if_neg ns2,if_pos rfl]
  ·show (if F1 k then 1 else if F2 k then 2 else if k=s then 0 else 10)=2;rw [if_neg (n1 k hk),if_pos hk]
  ·obtain ⟨x,e,_⟩:=hk;cases e
  ·replace hk:(if F1 k then 1 else if F2 k then 2 else if k=s then 0 else 10)<=9:=hk
   split at hk
   ·next a=>exact h3 k a
   ·split at hk
    ·next a b=>have:=k3 k b;exact .inr (by omega)
    ·split at hk
     ·next a b c=>exact .inr (by omega)
     ·omega
  ·exact Ch.of Fd ((h2.trans (k2.mono h2.size)).trans (hb.mono (by omega)))
 obtain ⟨lab3,hs3,hl3⟩:=H3.out;have hbx:Below w3.heap.size w3 (bxG w3):=((Below.refl _ w3).alloc (jB _) _).alloc (by simp) _;have hbs:(bxG w3).heap.size=w3.heap.size+2:=by unfold bxG;simp
 have hbe:(bxG w3).heap[w3.heap.size+1]?=some (.cells #[.int .i64 0] 31 (0,0)):=heap_alloc2_new w3 _ _;obtain ⟨lb,hlb⟩:∃l,relab lab3 w3.heap.size 10=l:=⟨_,rfl⟩;have hsB:=hs3.keepL (i:=9) (by decide) (Trn.below hbx) (Agr.relab w3.heap.size 10 lab3);have hlB:=hl3.turn (j:=9) (Trn.below hbx) (by decide) (Agr.relab w3.heap.size 10 lab3);rw [hlb] at hsB hlB;have lb10:∀k,w3.heap.size<=k->lb k=10:=fun k hk=>by rw [<-hlb];exact zY hk
 have hfm:=format_any (w0:=bxG w3) (F0:=fun k=>lb k<=9) hsB ⟨fun _ hk=>.inl hk,Ch.refl _ _ _⟩ HK.out.1 HK.out.2.1 HK.out.2.2.1 HK.out.2.2.2.1 HK.out.2.2.2.2.1 HK.out.2.2.2.2.2.1 HK.out.2.2.2.2.2.2
 have hca:=caught_fmt w3 s (fun w1=>FmE (bxG w3) (fun k=>lb k<=9) s d p sp N n D0 (.returned (.tuple #[])) w1) (hfm.mono (by
  rintro e w1 he;have he2:=he;obtain ⟨rfl,D,gp,cP,lab,_,_,h3⟩:=he;have hh:w1.heap[w3.heap.size+1]?=some (.cells #[.int .i64 0] 31 (0,0)):=(h3.ch.block (w3.heap.size+1) (by omega) (by rw [lb10 _ (by omega)];omega)).trans hbe;exact ⟨rfl,by rw [cell_of_row _ _ _ _ _ (0,0) hh];rfl,by unfold World.frozen?;rw [hh];simp,he2⟩))
 have HC:Hid (LbC w (bxG w3) Fd lb/\(∀k,w3.heap.size<=k->lb k=10)/\(bxG w3).heap.size=w3.heap.size+2/\w.heap.size<=w3.heap.size):=⟨hlB,lb10,hbs,hl3.ch.size⟩;rw [hs];clear H1 H2 H3 hs3 hl3 hbx hbs hbe hlb hsB hlB lb10 hfm hw3 hs;go_wp2_with (go_at_call 51;refine hca.mono ?_;rintro e w4 ⟨w5,rfl,hF,rfl⟩)
 go_ret2
 obtain ⟨_,D,gp,cP,lab,f1,f2,f3⟩:=hF;obtain ⟨c1,c2,c3,c4⟩:=HC.out;have hc5:Ch w5.heap.size (fun k=>k=w3.heap.size+1) w5 (w5.setCell ⟨w3.heap.size+1,0,none⟩ (.int .i64 0)):=Ch.set (F:=fun k=>k=w3.heap.size+1) (p:=w3.heap.size+1) rfl 0 _
 have hl10:10<=lab (w3.heap.size+1):=by
  by_cases h9:lab (w3.heap.size+1)<=9
  ·rcases f3.old _ h9 with h4|h4
   ·rw [c2 _ (by omega)] at h4;omega
   ·omega
  ·omega
 have f4:=f3.base c1;have hst:=f2.keepL (i:=lab (w3.heap.size+1)) (by omega) (Trn.ch hc5 (fun k hk=>by rw [hk])) (Agr.refl _ lab);have hlb:=f4.box (by omega) hc5;obtain ⟨i1,i2,i3,i4,i5,i6⟩:=fmt_in f1 HK.out.1 HK.out.2.1 HK.out.2.2.1 rfl rfl rfl N rfl;have hdn:=(QU HK.out.2.1 HK.out.2.2.1).done (QT HK.out.2.1 HK.out.2.2.1);refine ⟨s,_,_,rfl,hst.toO hlb,{i:=i2,pl:=rfl,well:=i3,since:=i4,dn:=i5,ops:=?_,fr:=rfl,g:=rfl,S:=rfl,rs:=rfl,st:=rfl,zo:=fun k hk=>hdn.2 k hk,cl:=yU _ _,rp:=?_,rc:=fun z=>?_,C:=rfl,P:=rfl}⟩;have h3:ned ((n+7)/8)<=3:=by have:=HK.out.2.2.1;unfold ned;omega
 ·exact jR i6 (by omega)
 ·have hpg:=(QU HK.out.2.1 HK.out.2.2.1).pg (QT HK.out.2.1 HK.out.2.2.1);show (rsB (reaL n [] (natL []) (natL (tkG (ned ((n+7)/8)) (newS n)))) n).length=_;rw [rea_len (A:=[]) hpg.1 hpg.2.1];simp
 ·have hpg:=(QU HK.out.2.1 HK.out.2.2.1).pg (QT HK.out.2.1 HK.out.2.2.1);exact rea_iff (A:=[]) hpg.1 hpg.2.1
end
end Go.Proofs.YtaijfhadecennabGreat.Oct.Sx
namespace Go.Proofs.YtaijfhadecennabGreat.Oct
open Go.RowKit
theorem GT {w:World} {a:Option Addr} {c n:Nat} {xs:List Int} (h:Row w a c xs) (hn:xs.length=n):(convert 22 9 (.slice a n c)).run prog w=.ok (.string (strOfNums xs)) w:=by
 subst hn;rcases Nat.eq_zero_or_pos xs.length with h0|h0
 ·obtain rfl:xs=[]:=qF h0;rw [run_convert_bytes_string w 22 9 5 _ _ c underlying22 underlying5 underlying9];cases a<;>simp [Conv.bytesToString,loadCells]
  all_goals rfl
 ·obtain ⟨b,off,rfl⟩:=h.some' h0;exact run_convert_bytes_arg w 22 5 underlying22 underlying5 b off xs.length c xs rfl (fun i hi=>h.cells i hi) 9 underlying9
theorem u8_inj {x y:Int} (hx:0<=x/\x<=255) (hy:0<=y/\y<=255) (h:UInt8.ofNat x.toNat=UInt8.ofNat y.toNat):x=y:=by
 have:=congrArg UInt8.toNat h;simp at this;omega
theorem map_inj {xs:List Int}:∀{ys:List Int},Bys xs->Bys ys->xs.map (fun n=>UInt8.ofNat n.toNat)=ys.map (fun n=>UInt8.ofNat n.toNat)->xs=ys:=by
 induction xs with
 |nil=>intro ys _ _ h;cases ys with|nil=>rfl|cons y ys=>simp at h
 |cons x xs ih=>
  intro ys hx hy h;cases ys with
  |nil=>simp at h
  |cons y ys=>
   simp only [qO,List.cons.injEq] at h;rw [u8_inj (hx x (xU ..)) (hy y (xU ..)) h.1,ih (fun z hz=>hx z (jL _ hz)) (fun z hz=>hy z (jL _ hz)) h.2]
theorem str_eq {xs ys:List Int} (hx:Bys xs) (hy:Bys ys):((strOfNums xs).toList==(strOfNums ys).toList)=decide (xs=ys):=by
 by_cases h:xs=ys
 ·subst h;simp
 ·rw [jM h,beq_eq_false_iff_ne];intro e;refine h (map_inj hx hy ?_);rw [<-strOfNums_data,<-strOfNums_data,<-Lib.toList_data,<-Lib.toList_data];exact e
theorem equal_v {w:World} {a1 a2:Option Addr} {c1 c2 n1 n2:Nat} {xs ys:List Int} (h1:Row w a1 c1 xs) (h2:Row w a2 c2 ys) (e1:xs.length=n1) (e2:ys.length=n2) (b:Bool) (hb:decide (xs=ys)=b):
  Calls prog 150 #[.slice a1 n1 c1,.slice a2 n2 c2] w fun e w'=>e=.returned (.bool b)/\w=w':=by
 have k1:=GT h1 e1;have k2:=GT h2 e2;have k3:=str_eq h1.1 h2.1;rw [hb] at k3;obtain ⟨s1,hs1⟩:∃s,strOfNums xs=s:=⟨_,rfl⟩;obtain ⟨s2,hs2⟩:∃s,strOfNums ys=s:=⟨_,rfl⟩;rw [hs1] at k1 k3;rw [hs2] at k2 k3;clear h1 h2 e1 e2 hb hs1 hs2;go_enter func150,ntmps150
 go_wp2;go_ret
 exact ⟨rfl,rfl⟩
end Go.Proofs.YtaijfhadecennabGreat.Oct
namespace Go.Proofs.YtaijfhadecennabGreat.Oct
open Go.RowKit
theorem tree0 (v:Value) (S:Sp) (w:World) (hr:S.r=0):Calls prog 147 #[v,spV S] w fun e w'=>e=.returned (.tuple #[])/\Below w.heap.size w w':=by
 have h1:(S.r==0)=true:=by rw [hr];rfl
 unfold spV;clear hr;go_enter func147,ntmps147
 go_wp2;refine bodyPost_ret (results_none rfl _ _ _) rfl ?_;exact ⟨rfl,(Below.refl _ w).alloc (jB _) _⟩
theorem text0 {w:World} {p d:Nat} {F FD:Nat->Prop} {D0:Dv} {L:List Int} {vM:Value} {R:List Bool} {cs:List Int} (h:W0A w p d F FD D0 L vM R cs):Calls prog 148 #[.pointer (some ⟨p,0,none⟩)] w fun e w'=>e=.returned (.slice none 0 0)/\w=w':=by
 obtain ⟨gr,cr,aC,cC,h⟩:=h;have c2:=h.at.2.2.1;clear h;go_enter func148,ntmps148
 go_wp2_with fail
 go_loop [3,13] (fun v i=>v=.slice none 0 0/\i=.int .i64 0) (fun v i=>0)
 case atStart=>exact ⟨rfl,rfl⟩
 case round=>
  obtain ⟨rfl,rfl⟩:=hrel;go_wp2;go_ret
  exact ⟨rfl,rfl⟩
def SvE (w:World) (d:Nat) (FD:Nat->Prop) (D0:Dv) (N:Nat) (r:Rp) (cs:List Int) (e:Ending) (w':World):Prop:=
 ∃v k aC cC,e=.returned (.tuple #[v,.slice aC cs.length cC])/\k<=N/\Dev w' d FD (rdK D0 k)/\Ch w.heap.size FD w w'/\RepP FD (fun k=>FD k\/w.heap.size<=k) w' v r/\OwnI w.heap.size w' (.slice aC cs.length cC) cs
attribute [local go_sem ↓] uT FU
set_option maxRecDepth 20000 in
theorem survey0 {w:World} {d N:Nat} {FD:Nat->Prop} {D0:Dv} {L:List Int} (hd:Dev w d FD D0) (hwl:Well D0) (hL:D0.now=L) (hN:D0.n=N) (hops:D0.ops<=1000000000000) (S:Sp) (hS:okS S=true) (hp:S.p=(N:Int)) (hr0:S.r=0)
  {R2 R3:List Bool} {st fr:List Int} (hc1:chB L (N+1) S.s (rN L) []=some (R2,st)) (hc2:chB L (N+1) S.f R2 []=some (R3,fr)) (hu:fr=usedL R3):
  Calls prog 105 #[.pointer (some ⟨d,0,none⟩),spV S] w fun e w'=>SvE w d FD D0 N ⟨S,-1,[],[],st,rsB R3 N,S.h⟩ (chQ L (N+1) S.s++chQ L (N+1) S.f) e w':=by
 have HCH:Hid (chB L (N+1) S.s (rN L) []=some (R2,st)/\chB L (N+1) S.f R2 []=some (R3,fr)/\fr=usedL R3/\S.r=0/\Well D0):=⟨hc1,hc2,hu,hr0,hwl⟩;obtain ⟨i0,hi0,hz0,hz1',hz2'⟩:=info_parts info4b;clear hc1 hc2 hu hr0 hwl;have hmm:= @run_makeMap prog;have hn4:8<=N/\N<=4096:=by have:=hd.1.n4;have:=hd.1.n8;omega
 have hm:N<=maxLen:=by unfold maxLen;omega
 have HDV:Hid (Dev (spx w S).drew d FD D0):=hd.below (kU w S).drew;have HB:Hid (Below w.heap.size w (spx w S)):=kU w S;have HN:Hid (D0.n=N):=hN;have HDL:Hid (∀k,FD k->k<w.heap.size):=hd.2.1;have HL:Hid (D0.now=L/\D0.ops<=1000000000000/\okS S=true/\S.p=(N:Int)):=⟨hL,hops,hS,hp⟩;have HSZ:Hid ((spx w S).heap.size=w.heap.size+2/\(spx w S).heap[w.heap.size]?=some (.cells (spC' S) 26 (0,0))/\(spx w S).heap[w.heap.size+1]?=some (.cells rpt0 55 (0,0))):=⟨by simp [spx],heap_alloc2_old w _ _,heap_alloc2_new w _ _⟩;have hp1:(spx w S).cell? ⟨w.heap.size,1,none⟩=some (.int .i64 (N:Int)):=by unfold spx;rw [cell_of_row _ _ _ (spC' S) 26 (0,0) (heap_alloc2_old w _ _),<-hp];rfl
 unfold spV;clear hd hN hL hops hS hp;go_enter func105,ntmps105
 go_upto_region 1 with fail
 rw [show ((w.alloc (.cells #[.int .i64 S.g,.int .i64 S.p,.int .i64 S.r,.int .i64 S.h,.int .i64 S.b,.int .i64 S.l,.int .i64 S.s,.int .i64 S.f] 26)).alloc (.cells #[.int .i64 0,.int .i64 0,.int .i64 0,.int .i64 0,.int .i64 0,.int .i64 0,.int .i64 0,.int .i64 0,.int .i64 0,.slice none 0 0,.slice none 0 0,.slice none 0 0,.slice none 0 0] 55))=spx w S from rfl];generalize spx w S=ws at hp1 HDV HB HSZ ⊢;refine wp_region_held_drew (S:=(fun w'=>w'.cell? ⟨w.heap.size,1,none⟩=some (.int .i64 (N:Int)))) (by kernel_rfl) ?_ (fun hHeld=>?_)
 ·(first|go_keep|assumption)
 refine tkH ?_ 0 ?_ ?_;rotate_left
 ·(intro w hSw;(try dsimp only at hSw);go_simp;first|done|with_reducible rfl)
 simp only [gx];refine tkH ?_ 1 ?_ ?_;rotate_left
 ·(intro w hSw;(try dsimp only at hSw);go_simp;first|done|with_reducible rfl)
 simp only [gx];refine tkH ?_ 2 ?_ ?_;rotate_left
 ·(intro w hSw;(try dsimp only at hSw);go_simp;first|done|with_reducible rfl)
 simp only [gx];refine wpAnyH_ready (rs:=[3]) (by kernel_rfl) (by simp) ?_;refine AllReadyH.cons rfl (fun K hK=>?_) AllReadyH.nil;go_simp;refine (YB HDV.out).mono ?_;rintro e w' ⟨rfl,rfl⟩;rw [HN.out];go_wp2_with fail
 refine hK.out _ _ ?_ (fun hHeld2=>?_)
 ·(first|go_keep|assumption)
 clear hK K hHeld;have hHeld:=hHeld2;clear hHeld2;refine tkH ?_ 4 ?_ ?_;rotate_left
 ·(intro w hSw;(try dsimp only at hSw);go_simp;first|done|with_reducible rfl)
 simp only [gx];refine wpAnyH_ready (rs:=[5]) (by kernel_rfl) (by simp) ?_;refine AllReadyH.cons rfl (fun K hK=>?_) AllReadyH.nil;go_simp;refine (JN ws.drew).mono ?_;rintro e w' ⟨rfl,rfl⟩;go_wp2_with fail
 refine hK.out _ _ ?_ (fun hHeld2=>?_)
 ·(first|go_keep|assumption)
 clear hK K hHeld hHeld2;refine wpAnyH_done (by kernel_rfl) ?_ _;have HZ:Hid (Dev ws.drew d FD D0/\Below w.heap.size w ws.drew/\ws.heap.size=w.heap.size+2/\ws.drew.heap[w.heap.size]?=some (.cells (spC' S) 26 (0,0))/\ws.drew.heap[w.heap.size+1]?=some (.cells rpt0 55 (0,0))):=⟨HDV.out,HB.out.drew,HSZ.out.1,HSZ.out.2.1,HSZ.out.2.2⟩;have hz1:ws.drew.cell? ⟨w.heap.size,1,none⟩=some (.int .i64 (N:Int)):=hp1;clear hp1 HDV HB HSZ;have hzs:ws.drew.heap.size=w.heap.size+2:=HZ.out.2.2.1;generalize ws.drew=wy at hz1 HZ hzs ⊢;go_upto_region 3 with (at_make;refine wpList_make_full _ rfl _ _ 98 rfl wy.heap.size 4 i0 (.bool false) 1 underlying98 hi0 hz0 hz1' .i64 .i64 _ _ N rfl rfl rfl rfl (by rw [hz2'];omega) hm (jB _) ?_;intro w1 hown1 hgrow1;have HO:Hid (OwnL wy.heap.size w1 (.slice (some ⟨wy.heap.size,0,none⟩) N N) (List.replicate N false)/\Below wy.heap.size wy w1):=⟨KH hown1,(Below.refl _ wy).grown hgrow1 (jB _) (by simp)⟩;clear hown1 hgrow1)
 obtain ⟨w2,hw2⟩:∃w2,((w1.alloc (.map #[] 0)).alloc (.cells #[.pointer (some ⟨d,0,none⟩),.slice (some ⟨w.heap.size+2,0,none⟩) N N,.slice none 0 0,.slice none 0 0,.map (some w1.heap.size)] 215))=w2:=⟨_,rfl⟩;rw [hw2]
 have HPN:Hid (pgN L=N):=by
  have h1:=HZ.out.1.1.now;rw [HL.out.1] at h1;show _=_;unfold pgN;have:=HN.out;omega
 obtain ⟨vM,hvM⟩:∃vM,Value.map (some w1.heap.size)=vM:=⟨_,rfl⟩
 have H2:Hid (W0A w2 (w1.heap.size+1) d (fun k=>FD k\/k=w1.heap.size+1\/k=w.heap.size+2) FD D0 L vM (rN L) []/\Below wy.heap.size wy w2):=by
  have hb1:Below wy.heap.size wy (w1.alloc (.map #[] 0)):=HO.out.2.alloc HO.out.2.size _;have hb2:Below wy.heap.size wy w2:=by rw [<-hw2];exact hb1.alloc hb1.size _
  have hlt:=HO.out.1.cap.2.2.2.1;have ho:=HO.out.1;rw [hzs] at hlt ho;refine ⟨?_,hb2⟩;unfold rN;rw [HPN.out];refine w0_new HZ.out.1 HCH.out.2.2.2.2 HL.out.1 HN.out HL.out.2.1 hb2 ?_ ?_ ?_ ?_ ?_
  ·rw [<-hw2,<-hvM];exact heap_alloc2_new w1 _ _
  ·rw [hzs];refine ho.kept ?_;rw [<-hw2];exact (heap_alloc_old _ _ (by simp;omega)).trans (heap_alloc_old _ _ hlt)
  ·omega
  ·omega
  ·omega
 have HS2:Hid (w2.heap[w.heap.size]?=some (.cells (spC' S) 26 (0,0))/\w2.heap[w.heap.size+1]?=some (.cells rpt0 55 (0,0))/\Step FD (fun k=>FD k\/k=w1.heap.size+1\/k=w.heap.size+2) w w2/\w.heap.size+2<=w1.heap.size/\w1.heap.size+1<w2.heap.size):=by
  have h1:=HO.out.2.size;have h2:=H2.out.2;refine ⟨(h2.block _ (by omega)).trans HZ.out.2.2.2.1,(h2.block _ (by omega)).trans HZ.out.2.2.2.2,⟨Ch.of FD (HZ.out.2.1.trans (h2.mono HZ.out.2.1.size)),fun k hk=>?_⟩,by omega,H2.out.1.lt _ H2.out.1.fp⟩;rcases hk with h|h|h
  ·exact .inl h
  ·right;omega
  ·right;omega
 have htr:=tree0 (.pointer (some ⟨w1.heap.size+1,0,none⟩)) S w2 HCH.out.2.2.2.1;unfold spV at htr;obtain ⟨p,hpp⟩:∃p,w1.heap.size+1=p:=⟨_,rfl⟩;rw [hpp] at H2 HS2 htr ⊢;have HPP:Hid (w1.heap.size+1=p):=hpp;clear hpp hw2 hvM HO hz1;have s0:w2.cell? ⟨w.heap.size,0,none⟩=some (.int .i64 S.g):=by rw [cell_of_row w2 _ _ _ _ (0,0) HS2.out.1];rfl
 have s1:w2.cell? ⟨w.heap.size,1,none⟩=some (.int .i64 S.p):=by rw [cell_of_row w2 _ _ _ _ (0,0) HS2.out.1];rfl
 have s2:w2.cell? ⟨w.heap.size,2,none⟩=some (.int .i64 S.r):=by rw [cell_of_row w2 _ _ _ _ (0,0) HS2.out.1];rfl
 have s3:w2.cell? ⟨w.heap.size,3,none⟩=some (.int .i64 S.h):=by rw [cell_of_row w2 _ _ _ _ (0,0) HS2.out.1];rfl
 have s4:w2.cell? ⟨w.heap.size,4,none⟩=some (.int .i64 S.b):=by rw [cell_of_row w2 _ _ _ _ (0,0) HS2.out.1];rfl
 have s5:w2.cell? ⟨w.heap.size,5,none⟩=some (.int .i64 S.l):=by rw [cell_of_row w2 _ _ _ _ (0,0) HS2.out.1];rfl
 have s6:w2.cell? ⟨w.heap.size,6,none⟩=some (.int .i64 S.s):=by rw [cell_of_row w2 _ _ _ _ (0,0) HS2.out.1];rfl
 have s7:w2.cell? ⟨w.heap.size,7,none⟩=some (.int .i64 S.f):=by rw [cell_of_row w2 _ _ _ _ (0,0) HS2.out.1];rfl
 go_wp2_with fail
 refine htr.mono ?_;clear htr;rintro e w3 ⟨rfl,hb3⟩
 have H3:Hid (W0A w3 p d (fun k=>FD k\/k=p\/k=w.heap.size+2) FD D0 L vM (rN L) []/\Step FD (fun k=>FD k\/k=p\/k=w.heap.size+2) w w3/\w3.heap[w.heap.size]?=some (.cells (spC' S) 26 (0,0))/\w3.heap[w.heap.size+1]?=some (.cells rpt0 55 (0,0))/\w.heap.size+2<=w3.heap.size/\∀k,(FD k\/k=p\/k=w.heap.size+2)->¬k=w.heap.size/\¬k=w.heap.size+1):=by
  have hl1:=yO HS2.out.1;have hl2:=yO HS2.out.2.1;have hsz:=hb3.size;have h4:=HS2.out.2.2.2;have h5:=HPP.out;refine ⟨H2.out.1.below hb3,HS2.out.2.2.1.trans (Step.ofB hb3),(hb3.block _ hl1).trans HS2.out.1,(hb3.block _ hl2).trans HS2.out.2.1,by omega,fun k hk=>?_⟩;rcases hk with h|h|h
  ·have:=HDL.out k h;constructor<;>omega
  ·constructor<;>omega
  ·constructor<;>omega
 clear hb3 H2 HS2 HZ HPP s0 s1 s2 s3 s4 s5 s6 s7;have s0:w3.cell? ⟨w.heap.size,0,none⟩=some (.int .i64 S.g):=by rw [cell_of_row w3 _ _ _ _ (0,0) H3.out.2.2.1];rfl
 have s1:w3.cell? ⟨w.heap.size,1,none⟩=some (.int .i64 S.p):=by rw [cell_of_row w3 _ _ _ _ (0,0) H3.out.2.2.1];rfl
 have s2:w3.cell? ⟨w.heap.size,2,none⟩=some (.int .i64 S.r):=by rw [cell_of_row w3 _ _ _ _ (0,0) H3.out.2.2.1];rfl
 have s3:w3.cell? ⟨w.heap.size,3,none⟩=some (.int .i64 S.h):=by rw [cell_of_row w3 _ _ _ _ (0,0) H3.out.2.2.1];rfl
 have s4:w3.cell? ⟨w.heap.size,4,none⟩=some (.int .i64 S.b):=by rw [cell_of_row w3 _ _ _ _ (0,0) H3.out.2.2.1];rfl
 have s5:w3.cell? ⟨w.heap.size,5,none⟩=some (.int .i64 S.l):=by rw [cell_of_row w3 _ _ _ _ (0,0) H3.out.2.2.1];rfl
 have s6:w3.cell? ⟨w.heap.size,6,none⟩=some (.int .i64 S.s):=by rw [cell_of_row w3 _ _ _ _ (0,0) H3.out.2.2.1];rfl
 have s7:w3.cell? ⟨w.heap.size,7,none⟩=some (.int .i64 S.f):=by rw [cell_of_row w3 _ _ _ _ (0,0) H3.out.2.2.1];rfl
 obtain ⟨gr,cr,aC,cC,hW⟩:=H3.out.1;have c2:=hW.at.2.2.1;have hp3:p<w3.heap.size:=hW.lt p hW.fp;have hw3:w.heap.size<w3.heap.size:=by have:=H3.out.2.2.2.2.1;omega
 have hp4:¬p=w3.heap.size:=by omega
 have hw4:¬w.heap.size=w3.heap.size:=by omega
 have c2':(w3.alloc (.cells #[.int .i64 0,.int .i64 0,.int .i64 0,.int .i64 0,.int .i64 0,.int .i64 0,.int .i64 0,.int .i64 0,.int .i64 0,.slice none 0 0,.slice none 0 0,.slice none 0 0,.slice none 0 0] 55)).cell? ⟨p,2,none⟩=some (.slice none 0 0):=by rw [<-c2];exact World.cell?_of_block (heap_alloc_old w3 _ hp3)
 clear hW;have hst4:=StP_new w3 (cs:= #[.int .i64 S.g,.int .i64 S.p,.int .i64 S.r,.int .i64 S.h,.int .i64 S.b,.int .i64 S.l,.int .i64 S.s,.int .i64 S.f,.int .i64 (-1),.slice none 0 0,.slice none 0 0,.slice none 0 0,.slice none 0 0]) rfl (QI S (-1) none none none none 0 0 0 0 0 0 0 0);have hst5:=setRow_new w3 rpt0 55 #[.int .i64 S.g,.int .i64 S.p,.int .i64 S.r,.int .i64 S.h,.int .i64 S.b,.int .i64 S.l,.int .i64 S.s,.int .i64 S.f,.int .i64 (-1),.slice none 0 0,.slice none 0 0,.slice none 0 0,.slice none 0 0];rw [show rpt0= #[.int .i64 0,.int .i64 0,.int .i64 0,.int .i64 0,.int .i64 0,.int .i64 0,.int .i64 0,.int .i64 0,.int .i64 0,.slice none 0 0,.slice none 0 0,.slice none 0 0,.slice none 0 0] from rfl] at hst4 hst5;have HST5:Hid _:=hst5;clear hst5;go_upto_region 4 with fail
 go_region
 go_upto_region 5 with fail
 obtain ⟨w4,hw4e⟩:∃w4,((w3.alloc (.cells #[.int .i64 0,.int .i64 0,.int .i64 0,.int .i64 0,.int .i64 0,.int .i64 0,.int .i64 0,.int .i64 0,.int .i64 0,.slice none 0 0,.slice none 0 0,.slice none 0 0,.slice none 0 0] 55)).drew.setRow w3.heap.size #[.int .i64 S.g,.int .i64 S.p,.int .i64 S.r,.int .i64 S.h,.int .i64 S.b,.int .i64 S.l,.int .i64 S.s,.int .i64 S.f,.int .i64 (-1),.slice none 0 0,.slice none 0 0,.slice none 0 0,.slice none 0 0])=w4:=⟨_,rfl⟩;have hbr:Below w3.heap.size w3 w4:=by rw [<-hw4e];exact HST5.out.2
 have hrb:w4.heap[w3.heap.size]?=some (.cells (rpP S (-1) (.slice none 0 0) (.slice none 0 0) (.slice none 0 0) (.slice none 0 0)) 55 (0,0)):=by rw [<-hw4e];exact HST5.out.1
 rw [hw4e];clear hw4e hst4 HST5;have HBR:Hid (Below w3.heap.size w3 w4/\w4.heap[w3.heap.size]?=some (.cells (rpP S (-1) (.slice none 0 0) (.slice none 0 0) (.slice none 0 0) (.slice none 0 0)) 55 (0,0))):=⟨hbr,hrb⟩;obtain ⟨rb,hrbe⟩:∃rb,w3.heap.size=rb:=⟨_,rfl⟩
 have HSV:Hid (SvI w w4 p d rb FD (fun k=>FD k\/k=p\/k=w.heap.size+2) D0 L vM (rN L) [] S none 0 []):=by
  have hlt:=H3.out.1.lt;have e0:=H3.out.2.2.1;have e1:=H3.out.2.2.2.1;have e2:=H3.out.2.2.2.2.2;have e3:=H3.out.2.2.2.2.1;refine ⟨H3.out.1.below hbr,?_,(hbr.block _ (yO e0)).trans e0,(hbr.block _ (yO e1)).trans e1,H3.out.2.1.trans (Step.ofB hbr),⟨fun h=>?_,fun h=>(e2 _ h).1 rfl,fun h=>(e2 _ h).2 rfl⟩,by omega,rwK_nil ..⟩
  ·rw [<-hrbe];exact hrb
  ·have:=hlt _ h;omega
 rw [hrbe];clear hbr hrb hrbe c2' hp4 hw4 hp3 hw3 s0 s1 s2 s3 s4 s5 s6 s7 c2 HBR H3;have htx:=text0 HSV.out.pw;go_wp2_with fail
 refine htx.mono ?_;clear htx;rintro e w5 ⟨rfl,rfl⟩;have c10:w4.cell? ⟨rb,10,none⟩=some (.slice none 0 0):=by rw [HSV.out.cell];rfl
 have f10:=HSV.out.frz 10;have HS6:Hid (SvI w (w4.setCell ⟨rb,10,none⟩ (.slice none 0 0)) p d rb FD (fun k=>FD k\/k=p\/k=w.heap.size+2) D0 L vM (rN L) [] S none 0 []):=HSV.out.text;go_upto_region 6 with fail
 obtain ⟨w6,hw6⟩:∃w6,w4.setCell ⟨rb,10,none⟩ (.slice none 0 0)=w6:=⟨_,rfl⟩;rw [hw6] at HS6 ⊢;clear hw6 c10 f10 HSV;have hbd:=YS HL.out.2.2.1;have HBD:Hid ((0<=S.s/\S.s<=4095)/\(0<=S.f/\S.f<=4095)):=⟨hbd.2.2.2.2.2.2.1,hbd.2.2.2.2.2.2.2⟩;clear hbd;have hch:=chain0 HS6.out.pw S.s ⟨HBD.out.1.1,by have:=HBD.out.1.2;omega⟩ (N+1) (by rw [rN_len,HPN.out];omega) (jW _) (R2,st) HCH.out.1 (chQ L (N+1) S.s) rfl;have c6:w6.cell? ⟨w.heap.size,6,none⟩=some (.int .i64 S.s):=by rw [HS6.out.sup];rfl
 go_wp2_with fail
 refine hch.mono ?_;clear hch;rintro e w7 ⟨gs,csz,F7,rfl,hpw7,st7,ho7,hF7,hby7,hrl7,hol7,hcl7⟩;simp only at hpw7 ho7 hby7 hrl7 hol7 hcl7
 have HS7:Hid (SvI w w7 p d rb FD F7 D0 L vM R2 (chQ L (N+1) S.s) S none 0 []/\RwK w w7 F7 rb gs csz st/\R2.length=N/\(chQ L (N+1) S.s).length<=cnt R2):=by
  have hl:=HS6.out.low;refine ⟨HS6.out.went hpw7 st7,⟨(ho7.row' hby7).2,fun k hk=>?_⟩,by rw [hrl7,rN_len,HPN.out],hcl7⟩;have h1:=World.ownsRow.lt ho7 k (zC hk);exact ⟨⟨hF7 k hk,by omega⟩,by omega,h1.2⟩
 clear hpw7 ho7 hby7 hrl7 hol7 hcl7 c6 hF7 st7;have c11:w7.cell? ⟨rb,11,none⟩=some (.slice none 0 0):=by rw [HS7.out.1.cell];rfl
 have f11:=HS7.out.1.frz 11;go_upto_region 7 with fail
 have HS8:Hid (SvI w (w7.setCell ⟨rb,11,none⟩ (.slice gs st.length csz)) p d rb FD F7 D0 L vM R2 (chQ L (N+1) S.s) S gs csz st):=HS7.out.1.state HS7.out.2.1;obtain ⟨w8,hw8⟩:∃w8,w7.setCell ⟨rb,11,none⟩ (.slice gs st.length csz)=w8:=⟨_,rfl⟩;rw [hw8] at HS8 ⊢;clear hw8 c11 f11;have hch:=chain0 HS8.out.pw S.f ⟨HBD.out.2.1,by have:=HBD.out.2.2;omega⟩ (N+1) (by rw [HS7.out.2.2.1];omega) HS7.out.2.2.2 (R3,fr) HCH.out.2.1 (chQ L (N+1) S.s++chQ L (N+1) S.f) rfl;have c7:w8.cell? ⟨w.heap.size,7,none⟩=some (.int .i64 S.f):=by rw [HS8.out.sup];rfl
 go_wp2_with fail
 refine hch.mono ?_;clear hch;rintro e w9 ⟨gf,cf,F9,rfl,hpw9,st9,ho9,hF9,hby9,hrl9,hol9,hcl9⟩;simp only at hpw9 ho9 hby9 hrl9 hol9 hcl9;have HS9:Hid (SvI w w9 p d rb FD F9 D0 L vM R3 (chQ L (N+1) S.s++chQ L (N+1) S.f) S gs csz st/\R3.length=N/\Row w9 gf cf fr):=⟨HS8.out.went hpw9 st9,by rw [hrl9,HS7.out.2.2.1],(ho9.row' hby9).2⟩;clear hpw9 ho9 hby9 hrl9 hol9 hcl9 c7 hF9 st9 HS8 HS7 HS6;go_upto_region 8 with fail
 have hus:=used0 HS9.out.1.pw ((N+7)/8) (by rw [HS9.out.2.1]);go_wp2_with fail
 refine hus.mono ?_;clear hus;rintro e w10 ⟨gu,rfl,ho10,hb10⟩;have HS10:Hid (SvI w w10 p d rb FD F9 D0 L vM R3 (chQ L (N+1) S.s++chQ L (N+1) S.f) S gs csz st/\Row w10 gf cf fr/\R3.length=N):=⟨HS9.out.1.below hb10,HS9.out.2.2.below hb10,HS9.out.2.1⟩;have heq:=equal_v HS10.out.2.1 (ho10.row' (zP _ _)).2 rfl (show (usedL R3).length=(N+7)/8 by unfold usedL;rw [yT,HS10.out.2.2]) true (jF HCH.out.2.2.1);clear ho10 hb10 HS9;go_wp2_with fail
 refine heq.mono ?_;clear heq;rintro e w' ⟨rfl,rfl⟩;go_wp2_with fail
 refine (JN w10).mono ?_;rintro e w' ⟨rfl,rfl⟩;go_upto_region 9 with fail
 have hpp:=pages0 HS10.out.1.pw N HS10.out.2.2;go_wp2_with fail
 refine hpp.mono ?_;clear hpp;rintro e w11 ⟨gg,cg,rfl,ho11,hb11⟩;have HS11:Hid (SvI w w11 p d rb FD F9 D0 L vM R3 (chQ L (N+1) S.s++chQ L (N+1) S.f) S gs csz st):=HS10.out.1.below hb11;have c12:w11.cell? ⟨rb,12,none⟩=some (.slice none 0 0):=by rw [HS11.out.cell];rfl
 have f12:=HS11.out.frz 12;obtain ⟨np,hnp⟩:∃np,(rsB R3 N).length=np:=⟨_,rfl⟩;rw [hnp] at ho11 ⊢;obtain ⟨cs,hcs⟩:∃cs,chQ L (N+1) S.s++chQ L (N+1) S.f=cs:=⟨_,rfl⟩;rw [hcs] at HS11;have HCS:Hid (chQ L (N+1) S.s++chQ L (N+1) S.f=cs):=hcs;go_upto_region 10 with fail
 have HX:=HS11.out.set 12 (.slice gg np cg);obtain ⟨w12,hw12⟩:∃w12,w11.setCell ⟨rb,12,none⟩ (.slice gg np cg)=w12:=⟨_,rfl⟩;obtain ⟨cx,hcx⟩:∃cx,rpP S (-1) (.slice none 0 0) (.slice none 0 0) (.slice gs st.length csz) (.slice gg np cg)=cx:=⟨_,rfl⟩;have hbx:w12.heap[rb]?=some (.cells cx 55 (0,0)):=by rw [<-hw12,<-hcx,yK _ _ _ _ _ _ _ HS11.out.bk];rfl
 rw [hw12] at HX ⊢;have hk12:∀g,¬g=rb->g<w11.heap.size->w12.heap[g]?=w11.heap[g]?:=fun g h1 h2=>HX.2.1.block g h2 h1
 have hlo:=HS11.out.low;have hrlo:=HS11.out.lo;have hr1:w12.heap[w.heap.size+1]?=some (.cells rpt0 55 (0,0)):=(hk12 _ (by omega) (by omega)).trans HS11.out.s1;have hcxs:cx.size=13/\cx.all (·.oneCell')=true:=by rw [<-hcx];exact ⟨rfl,QI ..⟩
 have hld:=vW (w:=w12.drew) hbx hcxs.1;have hst:=JZ (w:=w12.drew) hr1 rfl hcxs.1 hcxs.2;obtain ⟨gr,cr,aC,cC,hW⟩:=HX.1;have c3:=hW.at.2.2.2.1;have hpn:¬p=w.heap.size+1:=fun e=>HS11.out.nf.2.2 (e▸hW.fp)
 obtain ⟨nc,hnc⟩:∃nc,cs.length=nc:=⟨_,rfl⟩;rw [hnc] at c3;have c3':(w12.drew.setRow (w.heap.size+1) cx).cell? ⟨p,3,none⟩=some (.slice aC nc cC):=(World.cell?_of_block (w:=w12) (a:=⟨p,3,none⟩) (setRow_other w12.drew (w.heap.size+1) p cx hpn)).trans c3;have c3d:w12.drew.cell? ⟨p,3,none⟩=some (.slice aC nc cC):=c3;have hE:(w12.drew.setRow (w.heap.size+1) cx).heap[w.heap.size+1]?=some (.cells cx 55 (0,0)):=setRow_heap w12.drew _ _ _ _ _ hr1
 have HE:Hid (SvE w d FD D0 N ⟨S,-1,[],[],st,rsB R3 N,S.h⟩ cs (.returned (.tuple #[.agg cx,.slice aC nc cC])) (w12.drew.setRow (w.heap.size+1) cx)):=by
  have hch:Ch w.heap.size FD w (w12.drew.setRow (w.heap.size+1) cx):=HX.2.2.1.drew.setRow (.inl (by omega)) _;have hs12:w12.heap.size=w11.heap.size:=by rw [<-hw12,yL]
  have hsz:(w12.drew.setRow (w.heap.size+1) cx).heap.size=w11.heap.size:=by
   have key:∀W:World,(W.setRow (w.heap.size+1) cx).heap.size=W.heap.size:=fun W=>by simp [World.setRow]
   exact (key w12.drew).trans hs12
  have k2:∀g,¬g=w.heap.size+1->(w12.drew.setRow (w.heap.size+1) cx).heap[g]?=w12.heap[g]?:=fun g h1=>setRow_other w12.drew _ g _ h1
  have hcn:=XU R3;have hR3:=HS10.out.2.2;have hkS:=HS11.out.kS;have hgg:∀k,obl gg k->w10.heap.size<=k/\k<w11.heap.size:=fun k hk=>World.ownsRow.lt ho11 k (zC hk)
  have h10:=HS10.out.1.low
  have hcB:∀k,obl aC k->w.heap.size<=k:=fun k hk=>by
   rcases HS11.out.stp.2 k (hW.fC k hk) with e|e
   ·exact absurd e (hW.CD k hk)
   ·exact e
  refine ⟨_,cnt R3,aC,cC,by rw [hnc],by omega,hW.dev.keep (by omega) (fun g hg=>k2 g (fun e=>HS11.out.nf.2.2 (e▸hW.fD g hg))),hch,⟨none,0,none,0,gs,csz,gg,cg,by rw [<-hcx];subst hnp;rfl,⟨fun q hq=>(by cases hq),jB _,by simp [maxLen],.inl rfl⟩,row0 _,?_,?_,fun g hg=>?_⟩,?_⟩
  ·exact hkS.1.keepO (fun g hg=>(k2 g (by have:=(hkS.2 g hg).2.1;omega)).trans (hk12 g (hkS.2 g hg).1.2 (hkS.2 g hg).2.2))
  ·obtain ⟨a',c',e,hr⟩:=ho11.row;rw [hnp] at e;cases e;exact hr.keepO' (fun g hg=>(k2 g (by have:=hgg g hg;omega)).trans (hk12 g (by have:=hgg g hg;omega) (hgg g hg).2))
  ·rcases hg with hg|hg|hg|hg
   ·obtain ⟨x,e,_⟩:=hg;cases e
   ·obtain ⟨x,e,_⟩:=hg;cases e
   ·have:=hkS.2 g hg;exact ⟨⟨fun e=>this.1.1 (hW.fD g e),by omega⟩,.inr (by omega)⟩
   ·have:=hgg g hg;refine ⟨⟨fun e=>?_,by omega⟩,.inr (by omega)⟩;have:=h10.2.2 g (hW.fD g e);omega
  ·have h5:OwnI 0 (w12.drew.setRow (w.heap.size+1) cx) (.slice aC cs.length cC) cs:=hW.ch.keepO (fun g hg=>k2 g (fun e=>HS11.out.nf.2.2 (e▸hW.fC g hg)));exact yS h5 (fun k hk=>hcB k (yX hk))
 have HRE:Hid _:=hE;have HCX:Hid (cx.size=13):=hcxs.1;clear hE hbx hk12 hlo hrlo hr1 hcxs hW hpn hcs hcx hw12 hnp ho11 hb11 HX HS11 HS10 c12 f12 hnc;go_region
 go_wp2;refine bodyPost_ret (XL rfl _ _ (w.heap.size+1) _ cx (0,0) _ rfl HRE.out underlying55 rfl (by rw [HCX.out];kernel_rfl)) rfl ?_;rw [HCS.out];exact HE.out
end Go.Proofs.YtaijfhadecennabGreat.Oct
namespace Go.Proofs.YtaijfhadecennabGreat.Oct
open Go.RowKit
attribute [local go_sem ↓] uT FU
def ErrA (w:World) (q:Nat) (x:Int):Prop:=w.heap[q]?=some (.cells #[.int .i64 x] 31 (0,0))
theorem ErrA.at {w:World} {q:Nat} {x:Int} (h:ErrA w q x):w.cell? ⟨q,0,none⟩=some (.int .i64 x)/\w.frozen? ⟨q,0,none⟩=false:=by
 unfold ErrA at h;refine ⟨?_,?_⟩
 ·rw [cell_of_row w q _ _ _ (0,0) h];rfl
 ·unfold World.frozen?;rw [h];simp
theorem ErrA.set {w:World} {q:Nat} {x:Int} (h:ErrA w q x) (y:Int):ErrA (w.setCell ⟨q,0,none⟩ (.int .i64 y)) q y:=by unfold ErrA;rw [yK _ _ _ _ _ _ _ h];rfl
theorem QO:rpt0= #[.int .i64 0,.int .i64 0,.int .i64 0,.int .i64 0,.int .i64 0,.int .i64 0,.int .i64 0,.int .i64 0,.int .i64 0,.slice none 0 0,.slice none 0 0,.slice none 0 0,.slice none 0 0]:=rfl
theorem RepP.keep {F G G':Nat->Prop} {w w':World} {v:Value} {R:Rp} (h:RepP F G w v R) (hs:w.heap.size<=w'.heap.size) (k:∀g,G g->¬F g->g<w.heap.size->w'.heap[g]?=w.heap[g]?) (hG:∀g,G g->G' g):RepP F G' w' v R:=by
 obtain ⟨aP,cP,aT,cT,aS,cS,aG,cG,e,h1,h2,h3,h4,h5⟩:=h;refine ⟨aP,cP,aT,cT,aS,cS,aG,cG,e,h1.keepO (fun g hg=>?_),h2.keepO (fun g hg=>?_),h3.keepO (fun g hg=>?_),h4.keepO' (fun g hg=>?_),fun g hg=>⟨⟨(h5 g hg).1.1,jV (h5 g hg).1.2 hs⟩,hG g (h5 g hg).2⟩⟩
 ·have:=h5 g (.inl hg);exact k g this.2 this.1.1 this.1.2
 ·have:=h5 g (.inr (.inl hg));exact k g this.2 this.1.1 this.1.2
 ·have:=h5 g (.inr (.inr (.inl hg)));exact k g this.2 this.1.1 this.1.2
 ·have:=h5 g (.inr (.inr (.inr hg)));exact k g this.2 this.1.1 this.1.2
def RsA (w:World) (q:Nat) (v:Value):Prop:=w.heap[q]?=some (.cells #[v] 38 (0,0))
theorem RsA.at {w:World} {q:Nat} {v:Value} (h:RsA w q v):w.cell? ⟨q,0,none⟩=some v/\w.frozen? ⟨q,0,none⟩=false:=by
 unfold RsA at h;refine ⟨?_,?_⟩
 ·rw [cell_of_row w q _ _ _ (0,0) h];rfl
 ·unfold World.frozen?;rw [h];simp
theorem RsA.set {w:World} {q:Nat} {v:Value} (h:RsA w q v) (y:Value):RsA (w.setCell ⟨q,0,none⟩ y) q y:=by unfold RsA;rw [yK _ _ _ _ _ _ _ h];rfl
theorem wcatch_no (v0 v1 v2:Value) (w:World):
  CallsD prog 104 #[v0,v1,v2] .returning w fun e u' w'=>e=.returned (.tuple #[])/\u'=.returning/\w'=w:=by
 refine callsD_of_wpS func104 rfl fun c₀ cs hu=>?_
 apply wpS_seq;apply wpS_region;simp [wpOpsS,go_sem,recoverD,hu,ntmps104,Exit.thenS];apply wpS_seq;apply wpS_region;simp [wpOpsS,go_sem,Exit.thenS];refine wpS_cond (t:=false) (by simp [Act.eval,Array.replicate]) ?_;simp only [xV,if_false];refine wpS_of_wp (wp_skip ?_);cases c₀
 simp_all [bodyPostS,results,Tryz.results104]
theorem gK {fn:Func} {p q u:Tmp} (h:fn.results= #[.cell p 55,.cell q 38,.cell u 31]) (tmps:Array Value) (w:World) (g c e:Nat) (cs:Array Value) (v:Value) (k:Int)
  (hp:tmps.getD p undef=.pointer (some ⟨g,0,none⟩)) (hq:tmps.getD q undef=.pointer (some ⟨c,0,none⟩)) (hu:tmps.getD u undef=.pointer (some ⟨e,0,none⟩)) (hg:w.heap[g]?=some (.cells cs 55 (0,0))) (hc:cs.size=13) (hr:RsA w c v) (he:ErrA w e k):
  (results fn tmps).run prog w=.ok (.tuple #[.agg cs,v,.int .i64 k]) w:=by
 have h1:=run_loadVar_row (P:=prog) w g 55 55 cs (0,0) _ hg underlying55 rfl (by rw [hc];kernel_rfl);have h2:=he.at.1;have h3:=hr.at.1;have hp':tmps[p]?.getD undef=.pointer (some ⟨g,0,none⟩):=by simpa using hp
 have hq':tmps[q]?.getD undef=.pointer (some ⟨c,0,none⟩):=by simpa using hq
 have hu':tmps[u]?.getD undef=.pointer (some ⟨e,0,none⟩):=by simpa using hu
 simp [results,h,hp',hq',hu',asAddr,h1];simp [go_sem,h2,h3]
def WlE (w:World) (d:Nat) (FD:Nat->Prop) (D0:Dv) (N:Nat) (r:Rp) (cs:List Int) (e:Ending) (w':World):Prop:=
 ∃v k aC cC,e=.returned (.tuple #[v,.slice aC cs.length cC,.int .i64 0])/\k<=N/\Dev w' d FD (rdK D0 k)/\Ch w.heap.size FD w w'/\RepP FD (fun k=>FD k\/w.heap.size<=k) w' v r/\OwnI w.heap.size w' (.slice aC cs.length cC) cs
def bxW (w:World) (S:Sp):World:=((((w.alloc (.cells #[.int .i64 S.g,.int .i64 S.p,.int .i64 S.r,.int .i64 S.h,.int .i64 S.b,.int .i64 S.l,.int .i64 S.s,.int .i64 S.f] 26)).alloc (.cells #[.int .i64 0,.int .i64 0,.int .i64 0,.int .i64 0,.int .i64 0,.int .i64 0,.int .i64 0,.int .i64 0,.int .i64 0,.slice none 0 0,.slice none 0 0,.slice none 0 0,.slice none 0 0] 55)).alloc (.cells #[.slice none 0 0] 38)).alloc (.cells #[.int .i64 0] 31))
theorem bxW_all (w:World) (S:Sp):(bxW w S).heap.size=w.heap.size+4/\(bxW w S).heap[w.heap.size]?=some (.cells (spC' S) 26 (0,0))/\(bxW w S).heap[w.heap.size+1]?=some (.cells rpt0 55 (0,0))/\RsA (bxW w S) (w.heap.size+1+1) (.slice none 0 0)/\ErrA (bxW w S) (w.heap.size+1+1+1) 0/\Below w.heap.size w (bxW w S):=by
 refine ⟨by simp [bxW],?_,?_,?_,?_,?_⟩
 ·unfold bxW;rw [heap_alloc_old _ _ (by simp;omega),heap_alloc_old _ _ (by simp;omega)];exact heap_alloc2_old w _ _
 ·unfold bxW;rw [heap_alloc_old _ _ (by simp),heap_alloc_old _ _ (by simp)];exact heap_alloc2_new w _ _
 ·unfold bxW RsA;rw [heap_alloc_old _ _ (by simp)];have:=heap_alloc_new ((w.alloc (.cells #[.int .i64 S.g,.int .i64 S.p,.int .i64 S.r,.int .i64 S.h,.int .i64 S.b,.int .i64 S.l,.int .i64 S.s,.int .i64 S.f] 26)).alloc (.cells #[.int .i64 0,.int .i64 0,.int .i64 0,.int .i64 0,.int .i64 0,.int .i64 0,.int .i64 0,.int .i64 0,.int .i64 0,.slice none 0 0,.slice none 0 0,.slice none 0 0,.slice none 0 0] 55)) (.cells #[.slice none 0 0] 38)
  simpa using this
 ·unfold bxW ErrA;have:=heap_alloc_new (((w.alloc (.cells #[.int .i64 S.g,.int .i64 S.p,.int .i64 S.r,.int .i64 S.h,.int .i64 S.b,.int .i64 S.l,.int .i64 S.s,.int .i64 S.f] 26)).alloc (.cells #[.int .i64 0,.int .i64 0,.int .i64 0,.int .i64 0,.int .i64 0,.int .i64 0,.int .i64 0,.int .i64 0,.int .i64 0,.slice none 0 0,.slice none 0 0,.slice none 0 0,.slice none 0 0] 55)).alloc (.cells #[.slice none 0 0] 38)) (.cells #[.int .i64 0] 31)
  simpa using this
 ·unfold bxW;exact ((((Below.refl _ w).alloc (jB _) _).alloc (by simp) _).alloc (by simp;omega) _).alloc (by simp;omega) _
set_option maxRecDepth 20000 in
theorem walk0 {w:World} {d N:Nat} {FD:Nat->Prop} {D0:Dv} {L:List Int} (hd:Dev w d FD D0) (hwl:Well D0) (hL:D0.now=L) (hN:D0.n=N) (hops:D0.ops<=1000000000000) (S:Sp) (hS:okS S=true) (hp:S.p=(N:Int)) (hr0:S.r=0)
  {R2 R3:List Bool} {st fr:List Int} (hc1:chB L (N+1) S.s (rN L) []=some (R2,st)) (hc2:chB L (N+1) S.f R2 []=some (R3,fr)) (hu:fr=usedL R3):
  Calls prog 64 #[.pointer (some ⟨d,0,none⟩),spV S] w fun e w'=>WlE w d FD D0 N ⟨S,-1,[],[],st,rsB R3 N,S.h⟩ (chQ L (N+1) S.s++chQ L (N+1) S.f) e w':=by
 have hck:= @vV S;have hE:enE S=0:=by unfold enE;rw [hS];rfl
 have hmf:∀(fn:Fn) (first cap:Array Value) (w:World),(Instr.makeFunc fn first cap).run prog w=.ok (.func fn first cap) w:=fun _ _ _ _=>rfl
 obtain ⟨b0,b1,b2,b3,b4,b5⟩:=bxW_all w S;have HB:Hid ((bxW w S).heap.size=w.heap.size+4/\(bxW w S).heap[w.heap.size+1]?=some (.cells rpt0 55 (0,0))/\RsA (bxW w S) (w.heap.size+1+1) (.slice none 0 0)/\ErrA (bxW w S) (w.heap.size+1+1+1) 0/\Below w.heap.size w (bxW w S)/\(bxW w S).heap[w.heap.size]?=some (.cells (spC' S) 26 (0,0))):=⟨b0,b2,b3,b4,b5,b1⟩;have HSV:Hid (∀w1,Below w.heap.size w w1->Calls prog 105 #[.pointer (some ⟨d,0,none⟩),spV S] w1 fun e w'=>SvE w1 d FD D0 N ⟨S,-1,[],[],st,rsB R3 N,S.h⟩ (chQ L (N+1) S.s++chQ L (N+1) S.f) e w'):=fun w1 hb=>survey0 (hd.below hb) hwl hL hN hops S hS hp hr0 hc1 hc2 hu
 have HFL:Hid (∀k,FD k->k<w.heap.size):=hd.2.1;clear b0 b1 b2 b3 b4 b5 hd hL hN hops hS hwl hp hr0 hc1 hc2 hu;unfold spV at hck HSV ⊢;go_enter_defers func64,ntmps64
 go_wp2_with fail
 refine (hck (bxW w S) 0 hE).mono ?_;clear hck hE;rintro e w1 ⟨rfl,hb1⟩
 have H1:Hid (Below w.heap.size w w1/\w1.heap[w.heap.size]?=some (.cells (spC' S) 26 (0,0))/\w1.heap[w.heap.size+1]?=some (.cells rpt0 55 (0,0))/\RsA w1 (w.heap.size+1+1) (.slice none 0 0)/\ErrA w1 (w.heap.size+1+1+1) 0/\w.heap.size+4<=w1.heap.size):=by
  have:=HB.out.1;have:=hb1.size;exact ⟨HB.out.2.2.2.2.1.trans (hb1.mono HB.out.2.2.2.2.1.size),(hb1.block _ (by omega)).trans HB.out.2.2.2.2.2,(hb1.block _ (by omega)).trans HB.out.2.1,(hb1.block (w.heap.size+1+1) (by omega)).trans HB.out.2.2.1,(hb1.block (w.heap.size+1+1+1) (by omega)).trans HB.out.2.2.2.1,by omega⟩
 have hsv:=HSV.out w1 H1.out.1;have hc:∀i,w1.cell? ⟨w.heap.size,i,none⟩=(spC' S)[i]?:=fun i=>cell_of_row w1 _ _ _ _ (0,0) H1.out.2.1
 have s0:w1.cell? ⟨w.heap.size,0,none⟩=some (.int .i64 S.g):=by rw [hc];rfl
 have s1:w1.cell? ⟨w.heap.size,1,none⟩=some (.int .i64 S.p):=by rw [hc];rfl
 have s2:w1.cell? ⟨w.heap.size,2,none⟩=some (.int .i64 S.r):=by rw [hc];rfl
 have s3:w1.cell? ⟨w.heap.size,3,none⟩=some (.int .i64 S.h):=by rw [hc];rfl
 have s4:w1.cell? ⟨w.heap.size,4,none⟩=some (.int .i64 S.b):=by rw [hc];rfl
 have s5:w1.cell? ⟨w.heap.size,5,none⟩=some (.int .i64 S.l):=by rw [hc];rfl
 have s6:w1.cell? ⟨w.heap.size,6,none⟩=some (.int .i64 S.s):=by rw [hc];rfl
 have s7:w1.cell? ⟨w.heap.size,7,none⟩=some (.int .i64 S.f):=by rw [hc];rfl
 clear hc hb1 HB HSV;go_wp2_with fail
 refine hsv.mono ?_;clear hsv s0 s1 s2 s3 s4 s5 s6 s7;rintro e w2 ⟨v,k,aC,cC,rfl,hk,hdv,hch,hrep,hown⟩;obtain ⟨aP,cP,aT,cT,aS,cS,aG,cG,rfl,hrest⟩:=id hrep;simp only at hrep hrest ⊢;obtain ⟨cx,hcx⟩:∃cx,rpP S (-1) (.slice aP ([]:List C4).length cP) (.slice aT ([]:List Int).length cT) (.slice aS st.length cS) (.slice aG (rsB R3 N).length cG)=cx:=⟨_,rfl⟩;have hcl:cx.size=13:=by rw [<-hcx];rfl
 have hc1:cx.all (·.oneCell')=true:=by rw [<-hcx];exact QI ..
 rw [hcx] at hrep ⊢;obtain ⟨cs,hcs⟩:∃cs,chQ L (N+1) S.s++chQ L (N+1) S.f=cs:=⟨_,rfl⟩;have HCS:Hid (chQ L (N+1) S.s++chQ L (N+1) S.f=cs):=hcs;rw [hcs] at hown ⊢;obtain ⟨nc,hnc⟩:∃nc,cs.length=nc:=⟨_,rfl⟩;have HNC:Hid (cs.length=nc):=hnc;rw [hnc] at hown ⊢;have hFl:=HFL.out;have hs1:=H1.out.2.2.2.2.2;have hs2:=hch.size;have hn:∀i,¬FD (w.heap.size+i):=fun i h=>by have:=hFl _ h;omega
 have hr2:=(hch.block (w.heap.size+1) (by omega) (hn 1)).trans H1.out.2.2.1;have ha2:RsA w2 (w.heap.size+1+1) (.slice none 0 0):=(hch.block (w.heap.size+1+1) (by omega) (hn 2)).trans H1.out.2.2.2.1;have he2:ErrA w2 (w.heap.size+1+1+1) 0:=(hch.block (w.heap.size+1+1+1) (by omega) (hn 3)).trans H1.out.2.2.2.2.1;have hst1:=JZ hr2 rfl hcl hc1;have ha1:RsA (w2.setRow (w.heap.size+1) cx) (w.heap.size+1+1) (.slice none 0 0):=(setRow_other w2 _ _ cx (by omega)).trans ha2;obtain ⟨a1,f1⟩:=ha1.at;have HW:Hid (w2.heap[w.heap.size+1]?=some (.cells rpt0 55 (0,0))/\RsA w2 (w.heap.size+1+1) (.slice none 0 0)/\ErrA w2 (w.heap.size+1+1+1) 0/\RsA (w2.setRow (w.heap.size+1) cx) (w.heap.size+1+1) (.slice none 0 0)):=⟨hr2,ha2,he2,ha1⟩;have HR:Hid (RepP FD (fun k=>FD k\/w1.heap.size<=k) w2 (.agg cx) ⟨S,-1,[],[],st,rsB R3 N,S.h⟩/\OwnI w1.heap.size w2 (.slice aC nc cC) cs/\Dev w2 d FD (rdK D0 k)/\Ch w1.heap.size FD w1 w2/\k<=N/\w.heap.size+4<=w1.heap.size/\w1.heap.size<=w2.heap.size):=⟨hrep,hown,hdv,hch,hk,hs1,hs2⟩;have HCL:Hid (cx.size=13/\cx.all (·.oneCell')=true):=⟨hcl,hc1⟩;clear hrep hown hdv hch hk hs1 hs2 hr2 ha2 he2 ha1 hcl hc1 hcx hcs hnc hrest hFl hn;go_upto_region 5 with fail
 have hw3a:RsA ((w2.setRow (w.heap.size+1) cx).setCell ⟨w.heap.size+1+1,0,none⟩ (.slice aC nc cC)) (w.heap.size+1+1) (.slice aC nc cC):=HW.out.2.2.2.set _;have hw3r:((w2.setRow (w.heap.size+1) cx).setCell ⟨w.heap.size+1+1,0,none⟩ (.slice aC nc cC)).heap[w.heap.size+1]?=some (.cells cx 55 (0,0)):=(Below.heap_setCell _ _ _ _ (by dsimp only;omega)).trans (setRow_heap w2 _ _ _ _ _ HW.out.1);have hw3e:ErrA ((w2.setRow (w.heap.size+1) cx).setCell ⟨w.heap.size+1+1,0,none⟩ (.slice aC nc cC)) (w.heap.size+1+1+1) 0:=(Below.heap_setCell _ _ _ _ (by dsimp only;omega)).trans ((setRow_other w2 _ _ cx (by omega)).trans HW.out.2.2.1);have hw3c:Ch w2.heap.size (fun x=>w.heap.size+1<=x/\x<=w.heap.size+3) w2 ((w2.setRow (w.heap.size+1) cx).setCell ⟨w.heap.size+1+1,0,none⟩ (.slice aC nc cC)):=((Ch.refl _ (fun x=>w.heap.size+1<=x/\x<=w.heap.size+3) w2).setRow (.inr ⟨by omega,by omega⟩) cx).setCell (p:=⟨w.heap.size+1+1,0,none⟩) (.inr ⟨by show _<=w.heap.size+1+1;omega,by show w.heap.size+1+1<=_;omega⟩) _;obtain ⟨w3,hw3⟩:∃w3,(w2.setRow (w.heap.size+1) cx).setCell ⟨w.heap.size+1+1,0,none⟩ (.slice aC nc cC)=w3:=⟨_,rfl⟩;rw [hw3] at hw3a hw3r hw3e hw3c ⊢;have hld:=vW (w:=w3.drew) hw3r HCL.out.1;have hst3:=JZ (w:=w3.drew) hw3r HCL.out.1 HCL.out.1 HCL.out.2;have hb4:RsA (w3.drew.setRow (w.heap.size+1) cx) (w.heap.size+1+1) (.slice aC nc cC):=(setRow_other w3.drew _ _ cx (by omega)).trans hw3a;have he4:ErrA (w3.drew.setRow (w.heap.size+1) cx) (w.heap.size+1+1+1) 0:=(setRow_other w3.drew _ _ cx (by omega)).trans hw3e;have he5:ErrA ((w3.drew.setRow (w.heap.size+1) cx).setCell ⟨w.heap.size+1+1,0,none⟩ (.slice aC nc cC)) (w.heap.size+1+1+1) 0:=(Below.heap_setCell _ _ _ _ (by dsimp only;omega)).trans he4;have ha3d:w3.drew.cell? ⟨w.heap.size+1+1,0,none⟩=some (.slice aC nc cC):=hw3a.at.1;obtain ⟨b4,g4⟩:=hb4.at;obtain ⟨e5,g5⟩:=he5.at
 have HE:Hid ((((w3.drew.setRow (w.heap.size+1) cx).setCell ⟨w.heap.size+1+1,0,none⟩ (.slice aC nc cC)).setCell ⟨w.heap.size+1+1+1,0,none⟩ (.int .i64 0)).heap[w.heap.size+1]?=some (.cells cx 55 (0,0))/\RsA (((w3.drew.setRow (w.heap.size+1) cx).setCell ⟨w.heap.size+1+1,0,none⟩ (.slice aC nc cC)).setCell ⟨w.heap.size+1+1+1,0,none⟩ (.int .i64 0)) (w.heap.size+1+1) (.slice aC nc cC)/\ErrA (((w3.drew.setRow (w.heap.size+1) cx).setCell ⟨w.heap.size+1+1,0,none⟩ (.slice aC nc cC)).setCell ⟨w.heap.size+1+1+1,0,none⟩ (.int .i64 0)) (w.heap.size+1+1+1) 0/\
   WlE w d FD D0 N ⟨S,-1,[],[],st,rsB R3 N,S.h⟩ cs (.returned (.tuple #[.agg cx,.slice aC nc cC,.int .i64 0])) (((w3.drew.setRow (w.heap.size+1) cx).setCell ⟨w.heap.size+1+1,0,none⟩ (.slice aC nc cC)).setCell ⟨w.heap.size+1+1+1,0,none⟩ (.int .i64 0))):=by
  obtain ⟨q1,q2,q3,q4,q5,q6,q7⟩:=HR.out;have hFl:=HFL.out
  have hc5:Ch w2.heap.size (fun x=>w.heap.size+1<=x/\x<=w.heap.size+3) w2 (((w3.drew.setRow (w.heap.size+1) cx).setCell ⟨w.heap.size+1+1,0,none⟩ (.slice aC nc cC)).setCell ⟨w.heap.size+1+1+1,0,none⟩ (.int .i64 0)):=
   ((hw3c.drew.setRow (.inr ⟨by omega,by omega⟩) cx).setCell (p:=⟨w.heap.size+1+1,0,none⟩) (.inr ⟨by show _<=w.heap.size+1+1;omega,by show w.heap.size+1+1<=_;omega⟩) _).setCell (p:=⟨w.heap.size+1+1+1,0,none⟩) (.inr ⟨by show _<=w.heap.size+1+1+1;omega,by show w.heap.size+1+1+1<=_;omega⟩) _
  refine ⟨(Below.heap_setCell _ _ _ _ (by dsimp only;omega)).trans ((Below.heap_setCell _ _ _ _ (by dsimp only;omega)).trans (setRow_heap w3.drew _ _ _ _ _ hw3r)),(Below.heap_setCell _ _ _ _ (by dsimp only;omega)).trans (hb4.set _),he5.set 0,.agg cx,k,aC,cC,by rw [HNC.out],q5,q3.keep hc5.size (fun g hg=>hc5.block g (q3.2.1 g hg) (fun e=>by have:=hFl g hg;omega)),?_,?_,?_⟩
  ·refine (Ch.of FD H1.out.1).trans ((q4.mono (by omega) (fun _ _ h=>h)).trans (hc5.mono (by omega) (fun g hg e=>?_)));omega
  ·refine q1.keep hc5.size (fun g hg hn hl=>hc5.block g hl (fun e=>?_)) (fun g hg=>?_)
   ·rcases hg with h|h
    ·exact hn h
    ·omega
   ·rcases hg with h|h
    ·exact .inl h
    ·right;omega
  ·rw [HNC.out]
   have h5:OwnI w1.heap.size (((w3.drew.setRow (w.heap.size+1) cx).setCell ⟨w.heap.size+1+1,0,none⟩ (.slice aC nc cC)).setCell ⟨w.heap.size+1+1+1,0,none⟩ (.int .i64 0)) (.slice aC nc cC) cs:=yN q2 (fun g hg=>by
    have:=World.ownsRow.lt q2 g hg;exact hc5.block g this.2 (fun e=>by omega))
   exact yS h5 (fun g hg=>by have:=(World.ownsRow.lt q2 g hg).1;omega)
 clear hw3a hw3r hw3e hw3c hw3 hb4 he4 he5 a1 f1 hst1 HW HR;go_region
 go_wp2;refine leaves_cons (f:=104) (args:= #[.pointer (some ⟨w.heap.size+1,0,none⟩),.pointer (some ⟨w.heap.size+1+1,0,none⟩),.pointer (some ⟨w.heap.size+1+1+1,0,none⟩)]) (by simp) (by simp [go_sem]) ?_;refine (wcatch_no _ _ _ _).mono ?_;rintro e u' w'' ⟨rfl,rfl,rfl⟩;refine ⟨_,gK rfl _ _ (w.heap.size+1) (w.heap.size+1+1) (w.heap.size+1+1+1) _ _ 0 rfl rfl rfl HE.out.1 HCL.out.1 HE.out.2.1 HE.out.2.2.1,?_⟩;rw [HCS.out];exact HE.out.2.2.2
end Go.Proofs.YtaijfhadecennabGreat.Oct
