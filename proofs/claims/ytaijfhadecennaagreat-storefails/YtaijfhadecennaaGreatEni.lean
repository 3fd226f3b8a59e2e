/- Part of a proof. -/
import Derived.Test.YtaijfhadecennaaGreatEac
import Derived.Test.YtaijfhadecennaaGreatLf
import Derived.Test.YtaijfhadecennaaGreatEms
import Derived.Test.YtaijfhadecennaaGreatImx
import Derived.Test.YtaijfhadecennaaGreatEmx
open Go.Proofs.Tryz
set_option maxHeartbeats 8000000
namespace Go.Proofs.YtaijfhadecennaaGreat.Oct.Sx
open Go.RowKit
theorem VK (g n cap q:Nat) (zs:List Int) (k:Nat) (w:World) (h:Own 0 w (.slice (some ⟨g,0,none⟩) n cap) zs) (hb:Bys zs) (hl:zs.length<=1000000) (hk:k<zs.length*8) (hq:w.cell? ⟨q,0,none⟩=some (.slice (some ⟨g,0,none⟩) n cap)):
  Calls prog 102 #[.int .i64 k,.pointer (some ⟨q,0,none⟩)] w fun e w'=>e=.returned (.tuple #[])/\Own 0 w' (.slice (some ⟨g,0,none⟩) n cap) (zs.set (k/8) (bits .or .u8 (zs.getD (k/8) 0) (2^(k%8)%256)))/\Ch w.heap.size (fun x=>x=g) w w':=by
 obtain ⟨hn,b1,b2,hst⟩:=JL h (k/8) (by omega);obtain ⟨-,-,hcap,hm,-⟩:=h.cur;unfold maxLen at hm;have hkj:((k:Int)/8)=((k/8:Nat):Int):=by omega
 have hkr:((k:Int)%8)=((k%8:Nat):Int):=by omega
 have hr8:k%8<8:=by omega
 have hj:k/8<n:=by omega
 have HS:Hid (∀y:Int,Own 0 (w.setCell ⟨g,k/8,none⟩ (.int .u8 y)) (.slice (some ⟨g,0,none⟩) n cap) (zs.set (k/8) y)):=hst;have hzb:=hb.at (k/8);obtain ⟨z,hz'⟩:∃z,zs.getD (k/8) 0=z:=⟨_,rfl⟩;rw [hz'] at b1 hzb ⊢;obtain ⟨j,hj'⟩:∃j,k/8=j:=⟨_,rfl⟩;obtain ⟨r,hr'⟩:∃r,k%8=r:=⟨_,rfl⟩;rw [hj'] at b1 b2 hkj hj HS ⊢;rw [hr'] at hkr hr8 ⊢;have HL:Hid (n<=1000000):=by show _<=_;omega
 have hn1:=HL.out;clear hz' hj' hr' h hst hb hn hl hk;go_enter func102,ntmps102
 go_region
 go_end0
 exact ⟨rfl,HS.out _,(Ch.set (F:=fun x=>x=g) rfl _ _).drew⟩
def btK (N:Nat) (l:List Int) (k m:Nat):List Int:=bitsP (fun i=>decide (i<k)||decide ((i:Int)∈l.take m)) N
theorem GT (N:Nat) (l:List Int) (k m:Nat):(btK N l k m).length=(N+7)/8:=yY _ _
theorem btK_sup {N:Nat} {l:List Int} {k:Nat} (hk:k<N):(btK N l k 0).set (k/8) (bits .or .u8 ((btK N l k 0).getD (k/8) 0) (2^(k%8)%256))=btK N l (k+1) 0:=by
 unfold btK;refine YP hk (by simp) fun i hi=>?_
 simp only [List.take_zero,yM,decide_false,Bool.or_false];exact decide_eq_decide.2 (by omega)
theorem btK_more {N:Nat} {l:List Int} {m x:Nat} (hx:x<N) (hm:m<l.length) (hl:l.getD m 0=(x:Int)):(btK N l 2 m).set (x/8) (bits .or .u8 ((btK N l 2 m).getD (x/8) 0) (2^(x%8)%256))=btK N l 2 (m+1):=by
 have e:l.take (m+1)=l.take m++[(x:Int)]:=by
  rw [xM,<-hl,jA,jC hm];rfl
 unfold btK;refine YP hx ?_ fun i hi=>?_
 ·rw [e];simp
 ·rw [e]
  congr 1
  refine decide_eq_decide.2 ?_;rw [qV,yA];constructor
  ·rintro (h|h)
   ·exact h
   ·omega
  ·exact .inl
section
variable {w:World}
set_option maxRecDepth 20000 in
theorem bitsOf_any (N:Nat) (a:Option Addr) (cap:Nat) (l:List Int) (hr:RowI w a cap l) (h8:8<=N) (h4:N<=4096) (hl:∀z∈l,0<=z/\z<(N:Int)) (hln:l.length<=4096):
  Calls prog 54 #[.int .i64 N,.slice a l.length cap] w fun e w'=>∃g c,e=.returned (.slice (some ⟨g,0,none⟩) ((N+7)/8) c)/\Own w.heap.size w' (.slice (some ⟨g,0,none⟩) ((N+7)/8) c) (btK N l 2 l.length)/\Below w.heap.size w w':=by
 obtain ⟨nb,hnb⟩:∃nb,(N+7)/8=nb:=⟨_,rfl⟩;obtain ⟨ln,hlen⟩:∃ln,l.length=ln:=⟨_,rfl⟩;have hmf:∀(fn:Fn) (first cap:Array Value) (w:World),(Instr.makeFunc fn first cap).run prog w=.ok (.func fn first cap) w:=fun _ _ _ _=>rfl
 have hq:((N:Int)+7)/8=(nb:Int):=by omega
 have hm:nb<=maxLen:=by unfold maxLen;omega
 have hnb1:nb<=513:=by omega
 have hrc:=hr.1;have hcm:=hr.2.1;unfold maxLen at hcm;have HK:Hid (RowI w a cap l/\8<=N/\N<=4096/\(∀z∈l,0<=z/\z<(N:Int))/\l.length=ln/\ln<=4096/\(N+7)/8=nb):=⟨hr,h8,h4,hl,hlen,by omega,hnb⟩;obtain ⟨i0,hi0,hz0,hz1,hz2⟩:=info_parts info5;rw [hlen,hnb];clear hr hl hln hlen hnb;go_enter func54,ntmps54
 go_upto_region 2 with (first
  |(at_make;refine wpList_make_full _ rfl _ _ 32 rfl w.heap.size 5 i0 (.int .u8 0) 1 underlying32 hi0 hz0 hz1 .i64 .i64 _ _ nb rfl rfl hq hq (by rw [hz2];omega) hm (jB _) ?_;intro w1 hown1 hgrow1
    have HO:Hid (Own w.heap.size w1 (.slice (some ⟨w.heap.size,0,none⟩) nb nb) (List.replicate nb 0)/\Below w.heap.size w w1):=⟨JJ hown1,(Below.refl _ w).grown hgrow1 (jB _) (by simp)⟩;clear hown1 hgrow1 hm hi0 hz0 hz1 hz2))
 obtain ⟨wB,hwB⟩:∃wB,w1.alloc (.cells #[Value.slice (some {block:=w.heap.size,off:=0}) nb nb] 32)=wB:=⟨_,rfl⟩;rw [hwB];obtain ⟨qb,hqb⟩:∃qb,w1.heap.size=qb:=⟨_,rfl⟩;obtain ⟨gb,hgb⟩:∃gb,w.heap.size=gb:=⟨_,rfl⟩
 have HB:Hid (w.heap.size=gb/\gb<qb/\wB.heap[qb]?=some (.cells #[.slice (some ⟨gb,0,none⟩) nb nb] 32 (0,0))/\Own 0 wB (.slice (some ⟨gb,0,none⟩) nb nb) (btK N l 0 0)/\Below w.heap.size w wB):=by
  have hb:Below w1.heap.size w1 wB:=by rw [<-hwB];exact (Below.refl _ w1).alloc (jB _) _
  have h1:=World.ownsRow.lt HO.out.1 w.heap.size rfl;refine ⟨hgb,by omega,?_,?_,HO.out.2.trans (hb.mono HO.out.2.size)⟩
  ·rw [<-hwB,<-hqb,<-hgb];exact heap_alloc_new w1 _
  ·have h2:btK N l 0 0=List.replicate nb 0:=by
    unfold btK;rw [<-HK.out.2.2.2.2.2.2,<-ZO];exact zG fun i _=>by simp
   rw [h2,<-hgb];exact yX (yQ HO.out.1 (fun k hk=>hb.block k (World.ownsRow.lt HO.out.1 k hk).2)) (fun _ _=>jT _)
 rw [hqb,hgb];clear HO hwB hqb hq hgb;go_wp2;go_loopg [15] 2 (fun gh i wr=>∃k:Nat,k<=2/\gh=2-k/\i=.int .i64 (k:Int)/\Hid (Own 0 wr (.slice (some ⟨gb,0,none⟩) nb nb) (btK N l k 0)/\wr.heap[qb]?=some (.cells #[.slice (some ⟨gb,0,none⟩) nb nb] 32 (0,0))/\Below w.heap.size w wr))
 case atStart=>exact ⟨0,by omega,rfl,rfl,HB.out.2.2.2.1,HB.out.2.2.1,HB.out.2.2.2.2⟩
 case round=>
  obtain ⟨k,hk,hgk,rfl,HI⟩:=hrel;have HGK:Hid (gk=2-k):=hgk;clear hgk;by_cases hlt:k<2
  ·have hlt2:(k:Int)<2:=by omega
   have hbl:(btK N l k 0).length=nb:=(GT ..).trans HK.out.2.2.2.2.2.2;have hsb:=VK gb nb nb qb (btK N l k 0) k wr HI.out.1 (zZ _ _) (by omega) (by have:=HK.out.2.1;have:=HK.out.2.2.2.2.2.2;omega) (by rw [cell_of_row _ _ _ _ _ (0,0) HI.out.2.1];rfl);rw [btK_sup (show k<N by have:=HK.out.2.1;omega)] at hsb;clear hbl;go_wp2_with (go_at_call 102;refine hsb.mono ?_;rintro e w2 ⟨rfl,h1,h2⟩;have HJ:Hid (Own 0 w2 (.slice (some ⟨gb,0,none⟩) nb nb) (btK N l (k+1) 0)/\w2.heap[qb]?=some (.cells #[.slice (some ⟨gb,0,none⟩) nb nb] 32 (0,0))/\Below w.heap.size w w2):=⟨h1,(h2.block qb (yR HI.out.2.1) (by have:=HB.out.2.1;omega)).trans HI.out.2.1,HI.out.2.2.trans ((h2.mono HI.out.2.2.size (fun _ _ e=>e)).below (fun _ e=>by have:=HB.out.1;omega))⟩;clear hsb h1 h2)
   go_roundg (2-(k+1))
   case rel=>exact ⟨k+1,by omega,rfl,by go_num,HJ.out⟩
   case measure=>have:=HGK.out;omega
  ·obtain rfl:k=2:=by omega
   go_wp2;go_loopg [24] ln (fun gh i wr=>∃k:Nat,k<=ln/\gh=ln-k/\i=.int .i64 (k:Int)/\Hid (Own 0 wr (.slice (some ⟨gb,0,none⟩) nb nb) (btK N l 2 k)/\wr.heap[qb]?=some (.cells #[.slice (some ⟨gb,0,none⟩) nb nb] 32 (0,0))/\Below w.heap.size w wr))
   case atStart=>exact ⟨0,by omega,rfl,rfl,HI.out⟩
   case round=>
    clear HI HGK;obtain ⟨k,hk2,hgk,rfl,HI⟩:=hrel;have HGK:Hid (_=ln-k):=hgk;clear hgk;by_cases hlt2:k<ln
    ·obtain ⟨h1,h2,h3,h4,h5,h6,h7⟩:=HK.out;obtain ⟨ab,ao,rfl,hac⟩:=h1.at' k (by omega);have hcl:=(HI.out.2.2.cell (p:=⟨ab,ao+k,none⟩) (block_lt_of_cell hac)).trans hac;have hmem:l.getD k 0∈l:=by rw [jA,jC (by omega)];exact qB _
     obtain ⟨x,hx⟩:∃x:Nat,l.getD k 0=(x:Int):=⟨_,(qF (h4 _ hmem).1).symm⟩;have hxn:=(h4 _ hmem).2;rw [hx] at hcl hxn;have hsb:=VK gb nb nb qb (btK N l 2 k) x wr HI.out.1 (zZ _ _) (by rw [GT,h7];omega) (by rw [GT,h7];omega) (by rw [cell_of_row _ _ _ _ _ (0,0) HI.out.2.1];rfl);rw [btK_more (show x<N by omega) (by omega) hx] at hsb;have hkc:k<cap:=by omega
     clear h1 h2 h3 h4 h5 h6 h7 hac hmem hx hxn;go_wp2_with (go_at_call 102;refine hsb.mono ?_;rintro e w2 ⟨rfl,h1,h2⟩;have HJ:Hid (Own 0 w2 (.slice (some ⟨gb,0,none⟩) nb nb) (btK N l 2 (k+1))/\w2.heap[qb]?=some (.cells #[.slice (some ⟨gb,0,none⟩) nb nb] 32 (0,0))/\Below w.heap.size w w2):=⟨h1,(h2.block qb (yR HI.out.2.1) (by have:=HB.out.2.1;omega)).trans HI.out.2.1,HI.out.2.2.trans ((h2.mono HI.out.2.2.size (fun _ _ e=>e)).below (fun _ e=>by have:=HB.out.1;omega))⟩;clear hsb h1 h2)
     go_roundg (ln-(k+1))
     case rel=>exact ⟨k+1,by omega,rfl,by go_num,HJ.out⟩
     case measure=>have:=HGK.out;omega
    ·obtain rfl:k=ln:=by omega
     have hqc:wr.cell? ⟨qb,0,none⟩=some (.slice (some ⟨gb,0,none⟩) nb nb):=by rw [cell_of_row _ _ _ _ _ (0,0) HI.out.2.1];rfl
     have HE:Hid (Own w.heap.size wr (.slice (some ⟨gb,0,none⟩) nb nb) (btK N l 2 k)/\Below w.heap.size w wr):=⟨yX HI.out.1 (fun j hj=>by cases hj;exact xS HB.out.1),HI.out.2.2⟩;clear HI;go_wp2;go_ret
     exact ⟨_,_,rfl,HE.out.1,HE.out.2⟩
end
end Go.Proofs.YtaijfhadecennaaGreat.Oct.Sx
namespace Go.Proofs.YtaijfhadecennaaGreat.Oct.Sx
open Go.RowKit
attribute [local go_sem ↓] KO
theorem StS_at {w:World} {b o:Nat} {cur:Array Value} {t:TypeId} (S:Sp) (h:w.heap[b]?=some (.cells cur t (0,0))) (ho:o+8<=cur.size):∃w9,(StS (.pointer (some ⟨b,o,none⟩)) (.agg (spC S))).run prog w=.ok () w9/\
  w9.heap[b]?=some (.cells ((((((((cur.setIfInBounds o (.int .i64 S.g)).setIfInBounds (o+1) (.int .i64 S.p)).setIfInBounds (o+2) (.int .i64 S.r)).setIfInBounds (o+3) (.int .i64 S.h)).setIfInBounds (o+4) (.int .i64 S.b)).setIfInBounds (o+5) (.int .i64 S.l)).setIfInBounds (o+6) (.int .i64 S.s)).setIfInBounds (o+7) (.int .i64 S.f)) t (0,0))/\Ch w.heap.size (fun k=>k=b) w w9/\w9.heap.size=w.heap.size:=by
 refine ⟨w.setCells b o (spC S).toList,?_,?_,YE b (spC S).toList o w,QD b _ o w⟩
 ·unfold StS;refine run_storeAt_mid w b o 29 (spC S) ?_ (by kernel_rfl) (by simp [spC,Value.oneCell']);intro j hj;have hj':j<8:=hj;refine ⟨?_,by unfold World.frozen?;rw [h];simp⟩;rw [cell_of_row w b _ _ _ (0,0) h,xD (by omega)];rfl
 ·simp only [spC,World.setCells];rw [yO _ _ _ _ _ _ _ (yO _ _ _ _ _ _ _ (yO _ _ _ _ _ _ _ (yO _ _ _ _ _ _ _ (yO _ _ _ _ _ _ _ (yO _ _ _ _ _ _ _ (yO _ _ _ _ _ _ _ (yO _ _ _ _ _ _ _ h)))))))]
theorem cmC_put (s:Nat) (v:Value) (S0 S:Sp) (vC vT vB:Value) (bg:Bool):(((((((((cmC s v S0 vC vT vB bg).setIfInBounds 2 (.int .i64 S.g)).setIfInBounds (2+1) (.int .i64 S.p)).setIfInBounds (2+2) (.int .i64 S.r)).setIfInBounds (2+3) (.int .i64 S.h)).setIfInBounds (2+4) (.int .i64 S.b)).setIfInBounds (2+5) (.int .i64 S.l)).setIfInBounds (2+6) (.int .i64 S.s)).setIfInBounds (2+7) (.int .i64 S.f))=cmC s v S vC vT vB bg:=by
 simp [cmC]
def cmW (w:World) (s:Nat) (aS:Option Addr) (n cS:Nat):World:=(w.alloc (.cells #[Value.int IntKind.i64 0,Value.int IntKind.i64 0,Value.int IntKind.i64 0,Value.int IntKind.i64 0,Value.int IntKind.i64 0,Value.int IntKind.i64 0,Value.int IntKind.i64 0,Value.int IntKind.i64 0] 29)).alloc (.cells #[.pointer (some ⟨s,0,none⟩),.slice aS n cS,.int .i64 0,.int .i64 0,.int .i64 0,.int .i64 0,.int .i64 0,.int .i64 0,.int .i64 0,.int .i64 0,.slice none 0 0,.pointer none,.pointer none,.bool false] 115)
theorem cmW_all (w:World) (s:Nat) (aS:Option Addr) (n cS:Nat):Below w.heap.size w (cmW w s aS n cS)/\(cmW w s aS n cS).heap.size=w.heap.size+2/\
  (∀i,(cmW w s aS n cS).cell? ⟨w.heap.size,i,none⟩= #[Value.int IntKind.i64 0,Value.int IntKind.i64 0,Value.int IntKind.i64 0,Value.int IntKind.i64 0,Value.int IntKind.i64 0,Value.int IntKind.i64 0,Value.int IntKind.i64 0,Value.int IntKind.i64 0][i]?)/\
  (cmW w s aS n cS).heap[w.heap.size+1]?=some (.cells (cmC s (.slice aS n cS) sp0 (.slice none 0 0) (.pointer none) (.pointer none) false) 115 (0,0)):=by
 have h0:(cmW w s aS n cS).heap[w.heap.size]?=some (.cells #[Value.int IntKind.i64 0,Value.int IntKind.i64 0,Value.int IntKind.i64 0,Value.int IntKind.i64 0,Value.int IntKind.i64 0,Value.int IntKind.i64 0,Value.int IntKind.i64 0,Value.int IntKind.i64 0] 29 (0,0)):=heap_alloc2_old w _ _;refine ⟨((Below.refl _ w).alloc (jB _) _).alloc (by simp) _,by unfold cmW;simp,fun i=>cell_of_row _ _ _ _ _ (0,0) h0,heap_alloc2_new w _ _⟩
section
variable {w:World} {s d p sp cC cS:Nat} {aC aS:Option Addr} {X:St} {zs:List Int} {lab:Nat->Nat}
set_option maxRecDepth 20000 in
theorem commit_walk (h:StoC w s d p sp aC cC lab X) (hg:0<=X.g/\X.g+1<=1000000000) (R:Int->World->Prop)
  (hQ:∀wC,Below w.heap.size w wC->wC.heap.size=w.heap.size+2->wC.heap[w.heap.size+1]?=some (.cells (cmC s (.slice aS zs.length cS) (sup (X.g+1) X.D.n 0 0) (.slice none 0 0) (.pointer none) (.pointer none) false) 115 (0,0))->
   Calls prog 49 #[.func (.func 82) #[.pointer (some ⟨w.heap.size+1,0,none⟩)] #[],.func (.func 83) #[.pointer (some ⟨w.heap.size+1,0,none⟩)] #[]] wC fun e w'=>∃k,e=.returned (.int .i64 k)/\R k w'):
  Calls prog 45 #[.pointer (some ⟨s,0,none⟩),spV (sup 0 0 0 0),.slice aS zs.length cS] w fun e w'=>∃k,e=.returned (.int .i64 k)/\R k w':=by
 obtain ⟨s0,s1,s2,s11,s12,s13,_⟩:=h.at;obtain ⟨F1,hp,_⟩:=h.pool;have hmd:=fun (wx:World) (hx:wx.cell? ⟨s,0,none⟩=some (.pointer (some ⟨d,0,none⟩)))=>YK s d wx hx
 unfold spV sup;have hmf:∀(fn:Fn) (first cap:Array Value) (w:World),(Instr.makeFunc fn first cap).run prog w=.ok (.func fn first cap) w:=fun _ _ _ _=>rfl
 have HP:Hid (Pool w p d F1 X.D X.N X.L):=hp;have hsl:=h.lt
 have HQ:Hid (∀wC,Below w.heap.size w wC->wC.heap.size=w.heap.size+2->wC.heap[w.heap.size+1]?=some (.cells (cmC s (.slice aS zs.length cS) (sup (X.g+1) X.D.n 0 0) (.slice none 0 0) (.pointer none) (.pointer none) false) 115 (0,0))->
   Calls prog 49 #[.func (.func 82) #[.pointer (some ⟨w.heap.size+1,0,none⟩)] #[],.func (.func 83) #[.pointer (some ⟨w.heap.size+1,0,none⟩)] #[]] wC fun e w'=>∃k,e=.returned (.int .i64 k)/\R k w'):=hQ
 clear h hp hQ;go_enter func45,ntmps45
 go_wp2_with (go_at_call 55;refine (hmd _ (by go_simp)).mono ?_;rintro e w' ⟨rfl,rfl⟩)
 obtain ⟨hbB,hsz,k0,hk1⟩:=cmW_all w s aS zs.length cS;obtain ⟨wB,hwB⟩:∃wB,cmW w s aS zs.length cS=wB:=⟨_,rfl⟩;rw [hwB] at hbB hsz k0 hk1;unfold cmW at hwB;rw [hwB];clear hwB;have e0:=(hbB.cell (p:=⟨s,0,none⟩) hsl).trans s0;have e13:=(hbB.cell (p:=⟨s,13,none⟩) hsl).trans s13;have a2:=k0 2;have a3:=k0 3;have a4:=k0 4;have a5:=k0 5;simp only [qZ,xB,qK] at a2 a3 a4 a5;have hpgB:=QC (w:=wB.drew) (Pool.keep HP.out hbB.size (fun g hg=>hbB.block g (HP.out.lt g hg)));have HB:Hid (Below w.heap.size w wB/\wB.heap.size=w.heap.size+2/\wB.heap[w.heap.size+1]?=some (.cells (cmC s (.slice aS zs.length cS) sp0 (.slice none 0 0) (.pointer none) (.pointer none) false) 115 (0,0))):=⟨hbB,hsz,hk1⟩;clear k0 s0 s1 s2 s11 s12 s13 hmd hbB hsz hk1;have e0d:wB.drew.cell? ⟨s,0,none⟩=some (.pointer (some ⟨d,0,none⟩)):=e0;obtain ⟨wC,hst,hcC,hchC,hszC⟩:=StS_at (w:=wB.drew) (o:=2) (sup (X.g+1) X.D.n 0 0) HB.out.2.2 (by simp [cmC])
 have HC:Hid (Below w.heap.size w wC/\wC.heap.size=w.heap.size+2/\wC.heap[w.heap.size+1]?=some (.cells (cmC s (.slice aS zs.length cS) (sup (X.g+1) X.D.n 0 0) (.slice none 0 0) (.pointer none) (.pointer none) false) 115 (0,0))):=by
  obtain ⟨h1,h2,h3⟩:=HB.out;refine ⟨h1.trans ⟨hchC.os,hchC.tape,hchC.output,hchC.size,fun i hi=>hchC.block i ?_ (by omega)⟩,hszC.trans h2,by rw [hcC,cmC_put]⟩;show i<wB.heap.size;omega
 have hwr:IntKind.i64.wrap (X.g+1)=X.g+1:=by rw [IntKind.wrap_i64];omega
 unfold spC sup at hst;dsimp only at hst;rw [<-hwr] at hst;have y0:wC.cell? ⟨s,0,none⟩=some (.pointer (some ⟨d,0,none⟩)):=(hchC.cell (p:=⟨s,0,none⟩) (by show s<wB.heap.size;have:=HB.out.2.1;omega) (by show ¬s=_;omega)).trans e0;have y13:wC.cell? ⟨s,13,none⟩=some (.int .i64 X.g):=(hchC.cell (p:=⟨s,13,none⟩) (by show s<wB.heap.size;have:=HB.out.2.1;omega) (by show ¬s=_;omega)).trans e13;have yb:∀i v,wB.cell? ⟨w.heap.size,i,none⟩=some v->wC.cell? ⟨w.heap.size,i,none⟩=some v:=fun i v hv=>(hchC.cell (p:=⟨w.heap.size,i,none⟩) (by show w.heap.size<wB.heap.size;have:=HB.out.2.1;omega) (by show ¬w.heap.size=_;omega)).trans hv
 have y2:=yb 2 _ a2;have y3:=yb 3 _ a3;have y4:=yb 4 _ a4;have y5:=yb 5 _ a5;clear yb hcC hchC hszC hwr;refine wp_region_held_drew (S:=fun w'=>w'.cell? ⟨s,0,none⟩=some (.pointer (some ⟨d,0,none⟩))/\w'.cell? ⟨s,13,none⟩=some (.int .i64 X.g)/\w'.cell? ⟨w.heap.size,2,none⟩=some (.int .i64 0)/\w'.cell? ⟨w.heap.size,3,none⟩=some (.int .i64 0)/\w'.cell? ⟨w.heap.size,4,none⟩=some (.int .i64 0)/\w'.cell? ⟨w.heap.size,5,none⟩=some (.int .i64 0)) (by kernel_rfl) ?_ (fun hHeld=>?_)
 ·(first|go_keep|exact ⟨by assumption,by assumption,by assumption,by assumption,by assumption,by assumption⟩)
 refine wpAnyH_take (i:=0) (v:=?_) rfl (by kernel_rfl) (by kernel_rfl) (by kernel_rfl) (fun _ _ _ h=>h) (Or.inl ⟨by rfl,?_⟩) (by assumption) ?_;rotate_left
 ·intro w hSw;(try dsimp only at hSw);go_simp;try with_reducible rfl
 simp only [jJ,jF,Act.put,jD,jL,jI];refine wpAnyH_take (i:=1) (v:=?_) rfl (by kernel_rfl) (by kernel_rfl) (by kernel_rfl) (fun _ _ _ h=>h) (Or.inl ⟨by rfl,?_⟩) (by assumption) ?_;rotate_left
 ·intro w hSw;(try dsimp only at hSw);go_simp;try with_reducible rfl
 simp only [jJ,jG,jF,Act.put,jD,jL,jI];refine wpAnyH_take (i:=2) (v:=?_) rfl (by kernel_rfl) (by kernel_rfl) (by kernel_rfl) (fun _ _ _ h=>h) (Or.inl ⟨by rfl,?_⟩) (by assumption) ?_;rotate_left
 ·intro w hSw;(try dsimp only at hSw);go_simp;try with_reducible rfl
 simp only [jJ,jG,jF,Act.put,jD,jL,jI];refine wpAnyH_take (i:=3) (v:=?_) rfl (by kernel_rfl) (by kernel_rfl) (by kernel_rfl) (fun _ _ _ h=>h) (Or.inl ⟨by rfl,?_⟩) (by assumption) ?_;rotate_left
 ·intro w hSw;(try dsimp only at hSw);go_simp;try with_reducible rfl
 simp only [jJ,jG,jF,Act.put,jD,jL,jI];refine wpAnyH_take (i:=4) (v:=?_) rfl (by kernel_rfl) (by kernel_rfl) (by kernel_rfl) (fun _ _ _ h=>h) (Or.inl ⟨by rfl,?_⟩) (by assumption) ?_;rotate_left
 ·intro w hSw;(try dsimp only at hSw);go_simp;try with_reducible rfl
 simp only [jJ,jG,jF,Act.put,jD,jL,jI];refine wpAnyH_take (i:=5) (v:=?_) rfl (by kernel_rfl) (by kernel_rfl) (by kernel_rfl) (fun _ _ _ h=>h) (Or.inl ⟨by rfl,?_⟩) (by assumption) ?_;rotate_left
 ·intro w hSw;(try dsimp only at hSw);go_simp;try with_reducible rfl
 simp only [jJ,jG,jF,Act.put,jD,jL,jI];refine wpAnyH_take (i:=6) (v:=?_) rfl (by kernel_rfl) (by kernel_rfl) (by kernel_rfl) (fun _ _ _ h=>h) (Or.inl ⟨by rfl,?_⟩) (by assumption) ?_;rotate_left
 ·intro w hSw;(try dsimp only at hSw);go_simp;try with_reducible rfl
 simp only [jJ,jG,jF,Act.put,jD,jL,jI];refine wpAnyH_take (i:=7) (v:=?_) rfl (by kernel_rfl) (by kernel_rfl) (by kernel_rfl) (fun _ _ _ h=>h) (Or.inl ⟨by rfl,?_⟩) (by assumption) ?_;rotate_left
 ·intro w hSw;(try dsimp only at hSw);go_simp;try with_reducible rfl
 simp only [jJ,jG,jF,Act.put,jD,jL,jI];refine wpAnyH_take (i:=8) (v:=?_) rfl (by kernel_rfl) (by kernel_rfl) (by kernel_rfl) (fun _ _ _ h=>h) (Or.inl ⟨by rfl,?_⟩) (by assumption) ?_;rotate_left
 ·intro w hSw;(try dsimp only at hSw);go_simp;try with_reducible rfl
 simp only [jJ,jG,jF,Act.put,jD,jL,jI];refine wpAnyH_take (i:=9) (v:=?_) rfl (by kernel_rfl) (by kernel_rfl) (by kernel_rfl) (fun _ _ _ h=>h) (Or.inl ⟨by rfl,?_⟩) (by assumption) ?_;rotate_left
 ·intro w hSw;(try dsimp only at hSw);go_simp;try with_reducible rfl
 simp only [jJ,jG,jF,Act.put,jD,jL,jI];refine wpAnyH_take (i:=11) (v:=?_) rfl (by kernel_rfl) (by kernel_rfl) (by kernel_rfl) (fun _ _ _ h=>h) (Or.inl ⟨by rfl,?_⟩) (by assumption) ?_;rotate_left
 ·intro w hSw;(try dsimp only at hSw);go_simp;try with_reducible rfl
 simp only [jJ,jG,jF,Act.put,jD,jL,jI];refine wpAnyH_take (i:=12) (v:=?_) rfl (by kernel_rfl) (by kernel_rfl) (by kernel_rfl) (fun _ _ _ h=>h) (Or.inl ⟨by rfl,?_⟩) (by assumption) ?_;rotate_left
 ·intro w hSw;(try dsimp only at hSw);go_simp;try with_reducible rfl
 simp only [jJ,jG,jF,Act.put,jD,jL,jI];refine wpAnyH_take (i:=13) (v:=?_) rfl (by kernel_rfl) (by kernel_rfl) (by kernel_rfl) (fun _ _ _ h=>h) (Or.inl ⟨by rfl,?_⟩) (by assumption) ?_;rotate_left
 ·intro w hSw;(try dsimp only at hSw);go_simp;try with_reducible rfl
 simp only [jJ,jG,jF,Act.put,jD,jL,jI];refine wpAnyH_take (i:=14) (v:=?_) rfl (by kernel_rfl) (by kernel_rfl) (by kernel_rfl) (fun _ _ _ h=>h) (Or.inl ⟨by rfl,?_⟩) (by assumption) ?_;rotate_left
 ·intro w hSw;(try dsimp only at hSw);go_simp;try with_reducible rfl
 simp only [jJ,jG,jF,Act.put,jD,jL,jI];refine wpAnyH_take (i:=15) (v:=?_) rfl (by kernel_rfl) (by kernel_rfl) (by kernel_rfl) (fun _ _ _ h=>h) (Or.inl ⟨by rfl,?_⟩) (by assumption) ?_;rotate_left
 ·intro w hSw;(try dsimp only at hSw);go_simp;try with_reducible rfl
 simp only [jJ,jG,jF,Act.put,jD,jL,jI];refine wpAnyH_take (i:=16) (v:=?_) rfl (by kernel_rfl) (by kernel_rfl) (by kernel_rfl) (fun _ _ _ h=>h) (Or.inl ⟨by rfl,?_⟩) (by assumption) ?_;rotate_left
 ·intro w hSw;(try dsimp only at hSw);go_simp;try with_reducible rfl
 simp only [jJ,jG,jF,Act.put,jD,jL,jI];refine wpAnyH_take (i:=17) (v:=?_) rfl (by kernel_rfl) (by kernel_rfl) (by kernel_rfl) (fun _ _ _ h=>h) (Or.inl ⟨by rfl,?_⟩) (by assumption) ?_;rotate_left
 ·intro w hSw;(try dsimp only at hSw);go_simp;try with_reducible rfl
 simp only [jJ,jG,jF,Act.put,jD,jL,jI];refine wpAnyH_take (i:=18) (v:=?_) rfl (by kernel_rfl) (by kernel_rfl) (by kernel_rfl) (fun _ _ _ h=>h) (Or.inl ⟨by rfl,?_⟩) (by assumption) ?_;rotate_left
 ·intro w hSw;(try dsimp only at hSw);go_simp;try with_reducible rfl
 simp only [jJ,jG,jF,Act.put,jD,jL,jI];refine wpAnyH_ready (rs:=[10]) (by kernel_rfl) (by simp) ?_;refine AllReadyH.cons rfl (fun K hK=>?_) AllReadyH.nil;go_simp
 (go_at_call 48;refine hpgB.mono ?_;rintro e w' ⟨rfl,rfl⟩)
 go_wp2_with fail
 refine hK.out _ _ ?_ (fun hHeld2=>?_)
 ·(first|go_keep|exact ⟨by assumption,by assumption,by assumption,by assumption,by assumption,by assumption⟩)
 clear hK K hHeld;have hHeld:=hHeld2;clear hHeld2;refine wpAnyH_take (i:=19) (v:=?_) rfl (by kernel_rfl) (by kernel_rfl) (by kernel_rfl) (fun _ _ _ h=>h) (Or.inl ⟨by rfl,?_⟩) (by assumption) ?_;rotate_left
 ·intro w hSw;(try dsimp only at hSw);go_simp;try with_reducible rfl
 simp only [jJ,jG,jF,Act.put,jD,jL,jI];refine wpAnyH_take (i:=20) (v:=?_) rfl (by kernel_rfl) (by kernel_rfl) (by kernel_rfl) (fun _ _ _ h=>h) (Or.inl ⟨by rfl,?_⟩) (by assumption) ?_;rotate_left
 ·intro w hSw;(try dsimp only at hSw);go_simp;try with_reducible rfl
 simp only [jJ,jG,jF,Act.put,jD,jL,jI];refine wpAnyH_take (i:=21) (v:=?_) rfl (by kernel_rfl) (by kernel_rfl) (by kernel_rfl) (fun _ _ _ h=>h) (Or.inl ⟨by rfl,?_⟩) (by assumption) ?_;rotate_left
 ·intro w hSw;(try dsimp only at hSw);go_simp;try with_reducible rfl
 simp only [jJ,jG,jF,Act.put,jD,jL,jI];refine wpAnyH_ready (rs:=[22]) (by kernel_rfl) (by simp) ?_;refine AllReadyH.cons rfl (fun K hK=>?_) AllReadyH.nil;go_simp
 skip
 go_wp2_with fail
 refine hK.out _ _ ?_ (fun hHeld2=>?_)
 ·(first|go_keep|exact ⟨by assumption,by assumption,by assumption,by assumption,by assumption,by assumption⟩)
 clear hK K hHeld;have hHeld:=hHeld2;clear hHeld2;refine wpAnyH_done (by kernel_rfl) ?_ _;clear y0 y13 y2 y3 y4 y5 hHeld hpgB e0 e13 e0d a2 a3 a4 a5 hst HB HP;have hca:=HQ.out wC HC.out.1 HC.out.2.1 HC.out.2.2;clear HQ HC;go_wp2_with (go_at_call 49;refine hca.mono ?_;rintro e w' ⟨k,rfl,hr⟩)
 go_ret
 exact ⟨k,rfl,hr⟩
end
end Go.Proofs.YtaijfhadecennaaGreat.Oct.Sx
namespace Go.Proofs.YtaijfhadecennaaGreat.Oct.Sx
open Go.RowKit
section
variable {w0 w w':World} {F0:Nat->Prop} {s d p sp c cC cS:Nat} {aC aS:Option Addr} {lab:Nat->Nat} {X:St} {zs:List Int} {S:Sp}
theorem UsR.box (h:UsR w aS cS zs lab) {b:Nat} (hx:zs=[]\/∀x,aS=some x->x.block≠b) (hc:Ch w.heap.size (fun k=>k=b) w w'):UsR w' aS cS zs lab:=by
 obtain ⟨h1,h2⟩:=h;refine ⟨?_,?_⟩
 ·rcases hx with e|hx
  ·exact ⟨h1.1,h1.2.1,h1.2.2.1,.inl e⟩
  ·exact h1.ch hc (fun x e=>hx x e)
 rcases h2 with e|⟨x,e,h3,h4⟩
 ·exact .inl e
 ·exact .inr ⟨x,e,h3,qA h4 hc.size⟩
theorem LbC.box (h:LbC w0 w F0 lab) {b:Nat} (hb:w0.heap.size<=b) (hc:Ch w.heap.size (fun k=>k=b) w w'):LbC w0 w' F0 lab:=
 ⟨h.old,h.ch.trans (hc.mono h.ch.size (fun k hk e=>by omega))⟩
theorem Agr.refl (B:Nat) (lab:Nat->Nat):Agr B lab lab:=fun _ _=>rfl
theorem CmC.box {vC vT vB:Value} {bg:Bool} (h:CmC w0 w F0 s d p sp c aC cC lab X aS cS zs S vC vT vB bg) {b:Nat} (hb:10<=lab b) (h0:w0.heap.size<=b) (hx:zs=[]\/∀x,aS=some x->x.block≠b) (hc:Ch w.heap.size (fun k=>k=b) w w'):CmC w0 w' F0 s d p sp c aC cC lab X aS cS zs S vC vT vB bg:=
 have t:Trn lab (lab b) w w':=Trn.ch hc (fun k hk=>by rw [hk]);have g:=Agr.refl w.heap.size lab;have hl:=yR h.cm
 ⟨h.sto.keepL (by omega) t g,h.lb.box h0 hc,h.us.box hx hc,(t.block hl (by rw [h.lc];omega)).trans h.cm,h.lc⟩
theorem CmT.box {bg:Bool} {q1 q2 cP:Nat} {P1 P2 pgs:List Int} {aP:Option Addr} (h:CmT w0 w F0 s d p sp c aC cC lab X aS cS zs S bg q1 P1 q2 P2 aP cP pgs) {b:Nat} (hb:10<=lab b) (h0:w0.heap.size<=b) (hx:zs=[]\/∀x,aS=some x->x.block≠b) (hc:Ch w.heap.size (fun k=>k=b) w w'):CmT w0 w' F0 s d p sp c aC cC lab X aS cS zs S bg q1 P1 q2 P2 aP cP pgs:=
 have t:Trn lab (lab b) w w':=Trn.ch hc (fun k hk=>by rw [hk]);have g:=Agr.refl w.heap.size lab
 ⟨h.cm.box hb h0 hx hc,h.tk.keep t (by omega) g,h.bh.keep t (by omega) g,h.pg.keep t (by omega) g⟩
theorem CmC.self {vC vT vB:Value} {bg:Bool} (h:CmC w0 w F0 s d p sp c aC cC lab X aS cS zs S vC vT vB bg):CmC w w (fun k=>lab k<=9) s d p sp c aC cC lab X aS cS zs S vC vT vB bg:=⟨h.sto,⟨fun _ hk=>.inl hk,Ch.refl _ _ _⟩,h.us,h.cm,h.lc⟩
theorem CmT.self {bg:Bool} {q1 q2 cP:Nat} {P1 P2 pgs:List Int} {aP:Option Addr} (h:CmT w0 w F0 s d p sp c aC cC lab X aS cS zs S bg q1 P1 q2 P2 aP cP pgs):CmT w w (fun k=>lab k<=9) s d p sp c aC cC lab X aS cS zs S bg q1 P1 q2 P2 aP cP pgs:=⟨h.cm.self,h.tk,h.bh,h.pg⟩
theorem CmC.base {w1:World} {lb:Nat->Nat} {vC vT vB:Value} {bg:Bool} (h:CmC w1 w' (fun k=>lb k<=9) s d p sp c aC cC lab X aS cS zs S vC vT vB bg) (h0:LbC w0 w1 F0 lb):CmC w0 w' F0 s d p sp c aC cC lab X aS cS zs S vC vT vB bg:=⟨h.sto,h.lb.base h0,h.us,h.cm,h.lc⟩
end
def ComR (X:St) (pl:Nat) (r:Rp) (T:List (Sp × Rp)) (zs:List Int) (m a:Nat) (E:Int) (X':St) (pl':Nat) (r':Rp) (T':List (Sp × Rp)):Prop:=
 (E=3/\1048576<zs.length/\X'=X/\pl'=pl/\r'=r/\T'=T)\/(E=6/\¬m<=X.P.count 0/\X'=X/\pl'=pl/\r'=r/\T'=T)\/
 (E=7/\m<=X.P.count 0/\Bad X.D X'.D/\X'={X with D:=X'.D,L:=X'.L}/\pl'=pl/\r'=r/\T'=T)\/
 (E=7/\m<=X.P.count 0/\Bad X.D X'.D/\X'={X with D:=X'.D,L:=X'.L,P:=dbS X.P m,g:=X.g+1}/\pl'=pl/\r'=r/\T'=(sp1 X m a,rp1 X m a zs)::T)\/
 (E=0/\m<=X.P.count 0/\X'={X with D:=X'.D,L:=X'.L,P:=dnS X.P X.C m,S:=sp1 X m a,pl:=((1-pl:Nat):Int),C:=tkG m X.P,g:=X.g+1}/\pl'=1-pl/\r'=rp1 X m a zs/\T'=[])
def ComE (w0 w:World) (F0:Nat->Prop) (s d:Nat) (X:St) (pl:Nat) (r:Rp) (T:List (Sp × Rp)) (zs:List Int) (m a:Nat) (E:Int):Prop:=
 ∃X' pl' r' T',ComR X pl r T zs m a E X' pl' r' T'/\In X'.D X'.N X'.L X'.P X'.S pl' X'.C X'.g r' T'/\X'.pl=(pl':Int)/\Aft X.D X.L (tkG m X.P) 12000 X'.D X'.L/\StoO w0 w F0 s d X'
section
variable {w:World} {s d cS:Nat} {aS:Option Addr} {X:St} {zs:List Int} {F:Nat->Prop} {pl:Nat} {r:Rp} {T:List (Sp × Rp)}
theorem Commit_any (h:Sto w s d F X) (hI:In X.D X.N X.L X.P X.S pl X.C X.g r T) (hpl:X.pl=(pl:Int)) (hr:Row w aS cS zs) (hu:zs=[]\/∀k,obl aS k->k<w.heap.size/\¬F k) (hzl:zs.length<=1000000000) (hg:X.g+1<=1000000000) (hops:X.D.ops+12000<=1000000000) (hsi:X.D.since.length+12000<=900000):
  Calls prog 45 #[.pointer (some ⟨s,0,none⟩),spV (sup 0 0 0 0),.slice aS zs.length cS] w fun e w'=>∃k,e=.returned (.int .i64 k)/\ComE w w' F s d X pl r T zs (ned zs.length+ned ((X.D.n+7)/8)) (ned zs.length) k:=by
 obtain ⟨p,sp,aC,cC,lab0,hS,hlab,hlt⟩:=h;have hg0:0<=X.g:=by have h1:=hI.gs;have h2:=(ZI hI.jv.sp).1;omega
 refine commit_walk hS ⟨hg0,hg⟩ _ fun wC hb hsz hcm=>?_
 obtain ⟨m,hm⟩:∃m,ned zs.length+ned ((X.D.n+7)/8)=m:=⟨_,rfl⟩;obtain ⟨a,ha⟩:∃a,ned zs.length=a:=⟨_,rfl⟩;obtain ⟨labC,hlC⟩:∃l:Nat->Nat,l=fun k=>if k<w.heap.size then (if lab0 k<=3 then lab0 k else 10) else if k=w.heap.size+1 then 4 else 10:=⟨_,rfl⟩
 have cLo:∀k,k<w.heap.size->labC k=if lab0 k<=3 then lab0 k else 10:=fun k hk=>by rw [hlC];exact if_pos hk
 have cC1:labC (w.heap.size+1)=4:=by rw [hlC];show (if _ then _ else _)=_;rw [if_neg (by omega),if_pos rfl]
 have hSC:StoC wC s d p sp aC cC labC X:=by
  have h1:StoC w s d p sp aC cC (fun k=>if lab0 k<=3 then lab0 k else 10) X:=stoC_rel hS (fun k hk=>if_pos hk);exact h1.keepL (i:=9) (by decide) (Trn.below hb) (fun k hk=>cLo k hk)
 have hlbC:LbC w wC F labC:=by
  refine ⟨fun k hk=>?_,Ch.of F hb⟩;by_cases hk2:k<w.heap.size
  ·rw [cLo k hk2] at hk;split at hk
   ·next h3=>exact .inl (hlab k h3)
   ·omega
  ·exact .inr (by omega)
 have hus:UsR wC aS cS zs labC:=by
  refine ⟨hr.below hb,?_⟩;rcases hu with e|hu
  ·exact .inl e
  rcases row_in hr with e|⟨x,e⟩
  ·exact .inl e
  ·obtain ⟨u1,u2⟩:=hu x.block ⟨x,e,rfl⟩;refine .inr ⟨x,e,?_,qA u1 hb.size⟩;rw [cLo _ u1,if_neg (fun h3=>u2 (hlab _ h3))];exact jB _
 have hC:CmC w wC F s d p sp (w.heap.size+1) aC cC labC X aS cS zs (sup (X.g+1) X.D.n 0 0) (.slice none 0 0) (.pointer none) (.pointer none) false:=⟨hSC,hlbC,hus,hcm,cC1⟩;have hx0:zs=[]\/∀x,aS=some x->x.block<w.heap.size:=hu.imp id (fun hu x e=>(hu x.block ⟨x,e,rfl⟩).1);have hbx:Below wC.heap.size wC (bxF wC (w.heap.size+1)):=((Below.refl _ wC).alloc (jB _) _).alloc (by simp) _;have hbs:(bxF wC (w.heap.size+1)).heap.size=wC.heap.size+2:=by unfold bxF;simp
 have hbA:BxAt wC (bxF wC (w.heap.size+1)) (w.heap.size+1):=⟨heap_alloc2_old wC _ _,heap_alloc2_new wC _ _⟩;have hCB:=hC.keep (i:=9) (by decide) (by decide) (Trn.below hbx) (Agr.relab wC.heap.size 10 labC);obtain ⟨lb,hlb⟩:∃l,relab labC wC.heap.size 10=l:=⟨_,rfl⟩;rw [hlb] at hCB;have lb10:∀k,wC.heap.size<=k->lb k=10:=fun k hk=>by rw [<-hlb];exact JH hk
 have h0:=hCB.lb;have hrun:=run_any hCB.self hI hpl hr.1 hzl hg hops hsi;rw [hm,ha] at hrun
 have keepB:∀{w1:World},Ch (bxF wC (w.heap.size+1)).heap.size (fun k=>lb k<=9) (bxF wC (w.heap.size+1)) w1->BxAt wC w1 (w.heap.size+1):=fun {w1} hc=>
  ⟨(hc.block _ (by omega) (by rw [lb10 _ (jB _)];omega)).trans hbA.1,(hc.block _ (by omega) (by rw [lb10 _ (by omega)];omega)).trans hbA.2⟩
 have hca:=KU wC (w.heap.size+1) (fun w1=>RunE (bxF wC (w.heap.size+1)) (fun k=>lb k<=9) s d p sp (w.heap.size+1) aC cC X aS cS zs pl r T m a (.returned (.tuple #[])) w1)
  (fun E w1=>RunE (bxF wC (w.heap.size+1)) (fun k=>lb k<=9) s d p sp (w.heap.size+1) aC cC X aS cS zs pl r T m a (thrown E) w1)
  (fun E w1=>ComE w w1 F s d X pl r T zs m a E)
  (hrun.mono (by
   intro e w1 he;have he':=he;rcases he with ⟨E,e1,e2,lab,e3⟩|⟨e1,e2,D',L',lab,q1,q2,aP,cP,e3,e4,e5⟩|⟨e1,e2,D',L',lab,q1,q2,aP,cP,e3,e4,e5⟩|⟨e1,e2,e3,D',L',e4,e5,q2,aP,cP,lab,e6,e7,e8⟩
   ·exact ⟨keepB e3.lb.ch,.inr ⟨E,e1,by rw [e1] at he';exact he'⟩⟩
   ·exact ⟨keepB e3.cm.lb.ch,.inr ⟨7,e2,by rw [e2] at he';exact he'⟩⟩
   ·exact ⟨keepB e3.cm.lb.ch,.inr ⟨7,e2,by rw [e2] at he';exact he'⟩⟩
   ·exact ⟨keepB e8,.inl ⟨e3,by rw [e3] at he';exact he'⟩⟩))
  ?_
 ·refine hca.mono ?_;rintro e w' (⟨w1,rfl,hR,hB,rfl⟩|⟨k,rfl,hR⟩)
  ·refine ⟨0,rfl,?_⟩;rw [hm,ha];rcases hR with ⟨E,e1,_⟩|⟨_,e2,_⟩|⟨_,e2,_⟩|⟨e1,e2,e3,D',L',e4,e5,q2,aP,cP,lab,e6,e7,e8⟩
   ·unfold thrown at e1;cases e1
   ·unfold thrown at e2;cases e2
   ·unfold thrown at e2;cases e2
   ·have hc1:Ch w1.heap.size (fun k=>k=wC.heap.size+1) w1 (w1.setCell ⟨wC.heap.size+1,0,none⟩ (.int .i64 0)):=Ch.set (F:=fun k=>k=wC.heap.size+1) (p:=wC.heap.size+1) rfl 0 _
    have hl4:4<=lab (wC.heap.size+1):=by
     by_cases h3:lab (wC.heap.size+1)<=3
     ·rcases e7 _ h3 with h4|h4
      ·rw [lb10 _ (by omega)] at h4;omega
      ·omega
     ·omega
    have hst:=e6.keepL hl4 (Trn.ch hc1 (fun k hk=>by rw [hk])) (Agr.refl _ lab)
    have hch:Ch w.heap.size F w w1:=h0.ch.trans (e8.mono (by have:=hb.size;omega) (fun k hk e=>by
     rcases h0.old k e with h4|h4
     ·exact h4
     ·omega))
    refine ⟨_,1-pl,rp1 X m a zs,[],.inr (.inr (.inr (.inr ⟨rfl,e1,rfl,rfl,rfl,rfl⟩))),e4,rfl,e5,p,q2,aP,cP,lab,hst,fun k hk=>?_,hch.trans (hc1.mono hch.size (fun k hk e=>by omega))⟩;rcases e7 k hk with h4|h4
    ·exact h0.old k h4
    ·exact .inr (by have:=hb.size;omega)
  ·exact ⟨k,rfl,by rw [hm,ha];exact hR⟩
 ·intro E w1 hB hR;have hc1:Ch w1.heap.size (fun k=>k=wC.heap.size+1) w1 (w1.setCell ⟨wC.heap.size+1,0,none⟩ (.int .i64 E)):=Ch.set (F:=fun k=>k=wC.heap.size+1) (p:=wC.heap.size+1) rfl 0 _;have hcell:(w1.setCell ⟨wC.heap.size+1,0,none⟩ (.int .i64 E)).cell? ⟨wC.heap.size+1,0,none⟩=some (.int .i64 E):=World.cell?_setCell_same _ _ _ hB.at.1;have hx1:zs=[]\/∀x,aS=some x->x.block≠wC.heap.size+1:=hx0.imp id (fun hx0 x e=>by have:=hx0 x e;have:=hb.size;omega);have hw1:w.heap.size<=wC.heap.size+1:=by have:=hb.size;omega
  obtain ⟨wS,hwS⟩:∃wS,w1.setCell ⟨wC.heap.size+1,0,none⟩ (.int .i64 E)=wS:=⟨_,rfl⟩;rw [hwS] at hc1 hcell ⊢
  have hl:∀{lab:Nat->Nat},LbC (bxF wC (w.heap.size+1)) w1 (fun k=>lb k<=9) lab->10<=lab (wC.heap.size+1):=fun {lab} h=>by
   by_cases h9:lab (wC.heap.size+1)<=9
   ·rcases h.old _ h9 with h4|h4
    ·rw [lb10 _ (by omega)] at h4;omega
    ·omega
   ·omega
  have hbl:wC.heap.size+1<wS.heap.size:=by have h1:=yR hB.2;have h2:=hc1.size;omega
  rcases hR with ⟨E',e1,e2,lab,e3⟩|⟨hmc,e2,D',L',lab,q1,q2,aP,cP,e3,e4,e5⟩|⟨hmc,e2,D',L',lab,q1,q2,aP,cP,e3,e4,e5⟩|⟨_,_,e3,_⟩
  ·have hEE:E'=E:=by unfold thrown at e1;cases e1;rfl
   subst hEE;have hC1:=(e3.base h0).box (hl e3.lb) hw1 hx1 hc1;refine (fail_nil hC1).mono ?_;rintro e w' ⟨rfl,rfl⟩;refine ⟨rfl,hcell,?_⟩;rcases e2 with ⟨e4,e5⟩|⟨e4,e5⟩
   ·exact ⟨X,pl,r,T,.inl ⟨e4,e5,rfl,rfl,rfl,rfl⟩,hI,hpl,Aft.refl _ _ _ _,hC1.sto.toO hC1.lb⟩
   ·exact ⟨X,pl,r,T,.inr (.inl ⟨e4,e5,rfl,rfl,rfl,rfl⟩),hI,hpl,Aft.refl _ _ _ _,hC1.sto.toO hC1.lb⟩
  ·have hEE:E=7:=by unfold thrown at e2;cases e2;rfl
   subst hEE;obtain ⟨pg1,pg2,_⟩:=hI.pi.pg hmc;have hgl:=zA m X.P;have hm4:m<=4096:=by have h1:=List.count_le_length (a:=(0:Int)) (l:=X.P);have h2:=hI.pi.len;have h3:=hI.jv.ok.n4;omega
   have hm1:0<(tkG m X.P).length:=by have h8:=hI.jv.ok.n8;rw [hgl,<-hm];unfold ned;omega
   obtain ⟨gp,rfl⟩:=XI e3.pg.1 hm1;have hT1:=(e3.base h0).box (hl e3.cm.lb) hw1 hx1 hc1;have hlt1:=hl e3.cm.lb;refine (fail_no hT1.self (fun z hz=>by have:=yW pg1 z hz;omega) (by omega)).mono ?_;rintro e w' ⟨rfl,lab2,hT2⟩;have hT3:=hT2.base hT1.cm.lb;obtain ⟨i1,i2⟩:=mid_back hI e4 pg1;refine ⟨rfl,(World.cell?_of_block (w:=wS) (hT2.cm.lb.ch.block (wC.heap.size+1) hbl (by show ¬lab (wC.heap.size+1)<=9;omega))).trans hcell,{X with D:=D',L:=fgA L' (tkG m X.P)},pl,r,T,.inr (.inr (.inl ⟨rfl,hmc,e5,rfl,rfl,rfl,rfl⟩)),i1,hpl,i2,hT3.cm.sto.toO hT3.cm.lb⟩
  ·have hEE:E=7:=by unfold thrown at e2;cases e2;rfl
   subst hEE;obtain ⟨pg1,pg2,_⟩:=hI.pi.pg hmc;have hgl:=zA m X.P;have hm4:m<=4096:=by have h1:=List.count_le_length (a:=(0:Int)) (l:=X.P);have h2:=hI.pi.len;have h3:=hI.jv.ok.n4;omega
   have hm1:0<(tkG m X.P).length:=by have h8:=hI.jv.ok.n8;rw [hgl,<-hm];unfold ned;omega
   obtain ⟨gp,rfl⟩:=XI e3.pg.1 hm1;have hT1:=(e3.base h0).box (hl e3.cm.lb) hw1 hx1 hc1;have hlt1:=hl e3.cm.lb;refine (fail_yes hT1.self (fun z hz=>by have:=yW pg1 z hz;omega) (by omega)).mono ?_;rintro e w' ⟨rfl,⟨lab2,hS2,hlo2⟩,hch2⟩;obtain ⟨i1,i2⟩:=in_back e4 e5.1 pg1;have hb0:=hT1.cm.lb;refine ⟨rfl,(World.cell?_of_block (w:=wS) (hch2.block (wC.heap.size+1) hbl (by show ¬lab (wC.heap.size+1)<=9;omega))).trans hcell,{X with D:=D',L:=fgA L' (tkG m X.P),P:=dbS X.P m,g:=X.g+1},pl,r,_,.inr (.inr (.inr (.inl ⟨rfl,hmc,e5.2,rfl,rfl,rfl,rfl⟩))),i1,hpl,i2,p,q1,aC,cC,lab2,hS2,fun k hk=>?_,hb0.ch.trans (hch2.mono hb0.ch.size (fun k hk e=>by rcases hb0.old k e with h4|h4;exact h4;omega))⟩;rcases hlo2 k hk with h4|h4
   ·exact hb0.old k h4
   ·exact .inr (by have:=hb0.ch.size;omega)
  ·unfold thrown at e3;cases e3
end
end Go.Proofs.YtaijfhadecennaaGreat.Oct.Sx
namespace Go.Proofs.YtaijfhadecennaaGreat.Oct
open Go.RowKit
theorem Well.wrote {D:Dv} (h:Well D) (ok:D.ok) {k:Nat} {b:List Int} (hk:k<D.n) (hb:b.length=256):
  pageOf (writeD D k b).now k=b/\∀q,q<D.n->q≠k->pageOf (writeD D k b).now q=pageOf D.now q:=by
 have hn:=ok.now;rw [h.writeNow];refine ⟨by rw [QI (by omega) (by omega) hb,if_pos rfl],fun q hq hne=>?_⟩;rw [QI (by omega) (by omega) hb,if_neg hne]
theorem Well.writeS {D:Dv} (h:Well D) (k:Nat) (b:List Int):(writeD D k b).since=D.since++[(k,b)]/\(writeD D k b).sure=D.sure/\(writeD D k b).ops=D.ops+1:=by
 rw [h.writeE];exact ⟨rfl,rfl,rfl⟩
structure FmD (D0:Dv) (pz:List Int) (sh:List (List Int)) (k:Nat) (D:Dv):Prop where
 ok:D.ok
 well:Well D
 n:D.n=D0.n
 ops:D.ops<=D0.ops+k
 since:D.since.length<=D0.since.length+k
 at_:∀j,j<k->pageOf D.now (pz.getD j 0).toNat=sh.getD j []
theorem FmD.step {D0 D:Dv} {pz:List Int} {sh:List (List Int)} {k:Nat} (h:FmD D0 pz sh k D) (hp:CtOk pz) (hk:k<pz.length) (hn:∀z∈pz,z<(D0.n:Int)) (hb:(sh.getD k []).length=256) (hy:Bys (sh.getD k [])):
  FmD D0 pz sh (k+1) (writeD D (pz.getD k 0).toNat (sh.getD k [])):=by
 have hm:∀j,j<pz.length->pz.getD j 0∈pz:=fun j hj=>by rw [jA,jC hj];exact qB _
 have hz:=hn _ (hm k hk);have h2:=hp k hk;have hkn:(pz.getD k 0).toNat<D.n:=by rw [h.n];omega
 obtain ⟨w1,w2⟩:=h.well.wrote h.ok hkn hb;obtain ⟨s1,s2,s3⟩:=h.well.writeS (pz.getD k 0).toNat (sh.getD k []);refine ⟨XF h.ok hkn hb hy,h.well.write _ _,by rw [zO];exact h.n,by rw [s3];have:=h.ops;omega,by rw [s1,jN,List.length_singleton];have:=h.since;omega,fun j hj=>?_⟩;by_cases hjk:j=k
 ·subst hjk;exact w1
 ·have hz2:=hn _ (hm j (by omega));have h3:=hp j (by omega);have h4:=h2.2 j (by omega);rw [w2 _ (by rw [h.n];omega) (by omega)];exact h.at_ j (by omega)
theorem fm_kind0:(opP (List.replicate 256 0)).kind≠1:=by decide+kernel
theorem fm_deB {P:Pg} (h:P.kind≠1):deB P=false:=by
 unfold deB;simp [h]
set_option maxRecDepth 8000 in
theorem fm_de0:deE (List.replicate 256 0)≠0:=by
 unfold deE;split
 ·rw [fm_deB fm_kind0];decide
 ·assumption
theorem zero_oth (S:Sp):Othr S [] (List.replicate 256 0):=⟨nou_sbz,.inl fm_de0⟩
theorem uO {n i:Nat} (hn:8<=n):(newS n).getD i 0=if i<2 then 1 else 0:=by
 unfold newS;rw [jA,yD,yD,xA];simp only [jY,jK];by_cases h0:i=0
 ·subst h0;rw [if_neg (by omega),if_pos rfl,if_pos (by omega),if_pos (by omega)];rfl
 ·by_cases h1:i=1
  ·subst h1;rw [if_pos rfl,if_pos (by omega),if_pos (by omega)];rfl
  ·rw [if_neg (by omega),if_neg (by omega),if_neg (show ¬i<2 by omega)];split<;>rfl
theorem XM {n:Nat} (h8:8<=n) (h4:n<=4096):PInv n (newS n) [] where
 len:=JT n
 ok:=newS_ok h8 h4
 one:=fun k hk=>by
  rw [uO h8];split
  ·next h=>exact ⟨fun _=>.inl h,fun _=>rfl⟩
  ·next h=>exact ⟨fun e=>(by cases e),fun e=>by rcases e with e|e;exact absurd e h;cases e⟩
 two:=fun k hk=>by
  rw [uO h8];split<;>simp
 c:=fun i hi=>by cases hi
 cn:=fun z hz=>by cases hz
theorem newS_cnt {n:Nat} (h8:8<=n) (h4:n<=4096):(newS n).count 0+2=n:=
 (XM h8 h4).free fun k hk=>by
  rw [uO h8];split
  ·exact .inr rfl
  ·exact .inl rfl
theorem XL {n:Nat} (h8:8<=n) (h4:n<=4096):ned ((n+7)/8)<=(newS n).count 0:=by
 have:=newS_cnt h8 h4;unfold ned;omega
theorem bitL_tr (S:List Int) (hS:∀i,i<S.length->S.getD i 0≠3):bitL (trS 1 0 S)=bitL S:=by
 have hl:(trS 1 0 S).length=S.length:=by simp [trS]
 unfold bitL;rw [hl];refine zG fun i _=>?_
 by_cases hi:i<S.length
 ·have e:(trS 1 0 S).getD i 0=trZ 1 0 (S.getD i 0):=by
   unfold trS;rw [jA,jA,qH,jC hi];rfl
  rw [e];have h3:=hS i hi;unfold trZ usB;split
  ·next h=>rw [h];rfl
  ·first
   |rfl
   |(split
     ·next h=>exact absurd h h3
     ·rfl)
 ·rw [jA,jA,qD (by omega),qD (by omega)]
theorem fmt_in {D0 D:Dv} {n m:Nat} {bs:List Int} (hD:FmD D0 (tkG m (newS n)) (ctL bs (tkG m (newS n))) m D) (hn:D0.n=n) (h8:8<=n) (h4:n<=4096) (hm:m=ned ((n+7)/8)) (hb:bs=bitL (trS 1 0 (tkS m (newS n))))
  {S:Sp} (hS:S=sup 1 n 0 (hd0 (tkG m (newS n)))) (N:Nat) {E:Dv} (hE:E=syncD (writeD (writeD D 1 (List.replicate 256 0)) 0 (enZ S))):
  okS S=true/\In E N [] (trS 1 0 (tkS m (newS n))) S 0 (tkG m (newS n)) 1 (rpA n S [] [] (tkG m (newS n))) []/\Well E/\E.since=[]/\E.n=n/\E.ops<=D0.ops+m+3:=by
 have hi:=XM h8 h4;have hmc:m<=(newS n).count 0:=by rw [hm];exact XL h8 h4
 have hm1:0<m:=by rw [hm];unfold ned;omega
 obtain ⟨p1,p2,p3⟩:=hi.pg hmc;obtain ⟨d1,d2⟩:=hi.done hmc;have g0:gvA (tkS m (newS n)) []=tkS m (newS n):=rfl;rw [g0] at d1;have hgl:=zA m (newS n);have hmem:∀j,j<m->(tkG m (newS n)).getD j 0∈tkG m (newS n):=fun j hj=>by rw [jA,jC (by omega)];exact qB _
 have hf:=yW p1 _ (hmem 0 hm1);have hfn:=p2 _ (hmem 0 hm1);have hok:okS S=true:=by rw [hS];exact FY (by omega) (by omega) (by omega) (by omega) (.inl rfl) (.inr ⟨hf.1,hfn⟩)
 have hZl:(enZ S).length=256:=by rw [uT,if_pos hok]
 have hnD:D.n=n:=hD.n.trans hn;have b0:(List.replicate 256 (0:Int)).length=256:=jK;have ok1:=XF hD.ok (pg:=1) (by omega) b0 (XC 256);have n1:(writeD D 1 (List.replicate 256 0)).n=n:=by rw [zO];exact hnD
 have w1:=hD.well.write 1 (List.replicate 256 0);have ok2:=XF ok1 (pg:=0) (by omega) hZl (ZB S);have w2:=w1.write 0 (enZ S);have n2:(writeD (writeD D 1 (List.replicate 256 0)) 0 (enZ S)).n=n:=by rw [zO];exact n1
 obtain ⟨a1,a2⟩:=hD.well.wrote hD.ok (k:=1) (by omega) b0;obtain ⟨c1,c2⟩:=w1.wrote ok1 (k:=0) (by omega) hZl;have e3:E=setD (opD (writeD (writeD D 1 (List.replicate 256 0)) 0 (enZ S))):=by rw [hE];exact vJ w2.says
 have okE:E.ok:=by rw [hE];exact syncD_ok ok2
 have nE:E.n=n:=by rw [e3];exact n2
 have sE:E.since=[]:=by rw [e3];rfl
 have uE:E.sure=(writeD (writeD D 1 (List.replicate 256 0)) 0 (enZ S)).now:=by rw [e3];rfl
 have vE:E.now=E.sure:=by rw [e3];rfl
 have hpN:pgN E.sure=n:=by unfold pgN;rw [okE.sure,nE];omega
 have at0:pageOf E.sure 0=enZ S:=by rw [uE];exact c1
 have at1:pageOf E.sure 1=List.replicate 256 0:=by rw [uE,c2 1 (by omega) (by decide)];exact a1
 have atk:∀q,2<=q->q<n->pageOf E.sure q=pageOf D.now q:=fun q hq hqn=>by rw [uE,c2 q (by omega) (by omega)];exact a2 q (by omega) (by omega)
 have hch:ChAt E.sure bs (tkG m (newS n)):=fun i hi2=>by
  have hz:=yW p1 _ (hmem i (by omega));have hzn:=p2 _ (hmem i (by omega));rw [atk _ (by omega) (by omega),hD.at_ i (by omega)];unfold ctL;rw [jA,qH,List.getElem?_range hi2];rfl
 have hbits:usedL (reaL n [] (natL ((tkG m (newS n)).take 0)) (natL ((tkG m (newS n)).drop 0)))=bs:=by
  rw [<-hi.bits hmc 0,g0,hb,bitL_tr];intro i hi2;rw [JF,JT] at hi2;rw [(tk_at m hmc).2 i (by rw [JT];exact hi2)];split
  ·decide
  ·rw [uO h8];split<;>decide
 have hsu:=su_two (L:=E.sure) (g:=1) hpN (st:=[]) (fun z hz=>by cases hz) p1 p2 (a:=0) rfl (by rw [hgl,hm];omega) (fun i hi2=>by cases hi2) (by rw [hbits];exact hch);have hsu2:Su E.sure S (rpA n S [] [] (tkG m (newS n))):=by rw [hS];exact hsu
 refine ⟨hok,?_,?_,sE,nE,?_⟩
 ·exact
  {jv:={ok:=okE,now:=by rw [sE];exact vE,p2:=by omega,sp:=hok,su:=hsu2,at_:=at0,nop:=fun x hx=>(by rw [sE] at hx;cases hx),nor:=fun x hx=>(by rw [sE] at hx;cases hx),
        oth:=by rw [at1];exact zero_oth S,ots:=fun x hx=>(by rw [sE] at hx;cases hx),trd:=fun y hy=>(by cases hy)}
   fi:=FI.nil okE N
   nd:=by rintro k ⟨f,hf,_⟩;cases hf
   pi:=by rw [nE];exact d1
   rc:=fun z hz=>(gG (A:=[]) (F:=tkG m (newS n)) p1 z hz).2
   tc:=fun y hy=>by cases hy
   gs:=by rw [hS];exact Int.le_refl _
   gt:=fun y hy=>by cases hy
   sp:=by rw [hS,nE];rfl}
 ·rw [hE];exact w2.sync
 ·rw [e3];have o1:=(w1.writeS 0 (enZ S)).2.2;have o2:=(hD.well.writeS 1 (List.replicate 256 0)).2.2;have o3:=hD.ops;show (writeD (writeD D 1 (List.replicate 256 0)) 0 (enZ S)).ops+1<=_;omega
end Go.Proofs.YtaijfhadecennaaGreat.Oct
