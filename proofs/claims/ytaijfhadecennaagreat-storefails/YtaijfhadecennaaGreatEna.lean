/- Part of a proof. -/
import Derived.Test.YtaijfhadecennaaGreatEni
import Derived.Test.YtaijfhadecennaaGreatImx
import Derived.Test.YtaijfhadecennaaGreatIq
import Derived.Test.YtaijfhadecennaaGreatKb
import Derived.Laws.BytesArg
import Derived.Lib.Strings
open Go.Proofs.Tryz
set_option maxHeartbeats 8000000
namespace Go.Proofs.YtaijfhadecennaaGreat.Oct.Sx
open Go.RowKit
def bxG (w:World):World:=(w.alloc (.cells #[.func (.func 51) #[] #[]] 1)).alloc (.cells #[.int .i64 0] 25)
theorem caught_fmt (w:World) (s:Nat) (R0:World->Prop)
  (hrun:Calls prog 50 #[.pointer (some ⟨s,0,none⟩)] (bxG w) fun e w1=>e=.returned (.tuple #[])/\w1.cell? ⟨w.heap.size+1,0,none⟩=some (.int .i64 0)/\w1.frozen? ⟨w.heap.size+1,0,none⟩=false/\R0 w1):
  Calls prog 49 #[.func (.func 50) #[.pointer (some ⟨s,0,none⟩)] #[],.func (.func 51) #[] #[]] w fun e w'=>∃w1,e=.returned (.int .i64 0)/\R0 w1/\w'=w1.setCell ⟨w.heap.size+1,0,none⟩ (.int .i64 0):=by
 have hmf:∀(fn:Fn) (first cap:Array Value) (w:World),(Instr.makeFunc fn first cap).run prog w=.ok (.func fn first cap) w:=fun _ _ _ _=>rfl
 go_enter_defers func49,ntmps49
 go_wp2_with fail
 refine hrun.mono ?_;clear hrun;rintro e w1 ⟨rfl,c0,z0,hr⟩;have q0:∀x:Value,(w1.setCell ⟨w.heap.size+1,0,none⟩ x).cell? ⟨w.heap.size+1,0,none⟩=some x:=fun x=>World.cell?_setCell_same _ _ _ c0
 have HR:Hid (R0 w1):=hr;clear hr;go_wp2;refine leaves_cons (f:=88) (args:= #[.pointer (some ⟨w.heap.size+1,0,none⟩),.pointer (some ⟨w.heap.size,0,none⟩)]) (by simp) (by simp [go_sem]) ?_;refine (FM _ _ _).mono ?_;rintro e u' w'' ⟨rfl,rfl,rfl⟩;simp [Leaves,settle,results,Tryz.results49,go_sem,q0];exact ⟨w1,HR.out,rfl⟩
end Go.Proofs.YtaijfhadecennaaGreat.Oct.Sx
namespace Go.Proofs.YtaijfhadecennaaGreat.Oct.Sx
open Go.RowKit
attribute [local go_sem ↓] KO
structure FmC (w0 w:World) (F0:Nat->Prop) (s d p sp gp cP:Nat) (lab:Nat->Nat) (X:St) (pz:List Int):Prop where
 sto:StoC w s d p sp none 0 lab X
 lb:LbC w0 w F0 lab
 pg:RowL w (some ⟨gp,0,none⟩) pz.length cP pz lab 3
section
variable {w0 w w':World} {F0:Nat->Prop} {s d p sp gp cP:Nat} {lab lab':Nat->Nat} {X:St} {pz:List Int}
theorem FmC.keep (h:FmC w0 w F0 s d p sp gp cP lab X pz) {i:Nat} (h4:4<=i) (h9:i<=9) (t:Trn lab i w w') (g:Agr w.heap.size lab lab'):FmC w0 w' F0 s d p sp gp cP lab' X pz:=
 ⟨h.sto.keepL h4 t g,h.lb.turn t h9 g,h.pg.keep t (by omega) g⟩
theorem StoC.space' {aC:Option Addr} {cC:Nat} (h:StoC w s d p sp aC cC lab X) {F F':Nat->Prop} {P':List Int} (hF:∀k,F k->lab k=2) (hl:∀k,F k->k<w.heap.size) (hp:Sps.Spa w' sp F' P') (st:Step F F' w w'):StoC w' s d p sp aC cC (relab lab w.heap.size 2) {X with P:=P'}:=by
 obtain ⟨F2,q1,q2⟩:=h.pool;have l2:=q1.lt;have t:=Trn.of st hF;have kp:∀k,k<w.heap.size->lab k≠2->w'.heap[k]?=w.heap[k]?:=fun k hk hl=>t.block hk hl
 have hlt:=h.lt;have hcl:∀k,obl aC k->k<w.heap.size:=fun k hk=>(World.ownsRow.lt h.ch k (zI hk)).2
 exact ⟨(kp s hlt (by rw [h.l0];decide)).trans h.cells,by rw [zB hlt];exact h.l0,⟨F2,q1.keep t.size (fun k hk=>kp k (l2 k hk) (by rw [q2 k hk];decide)),fun k hk=>by rw [zB (l2 k hk)];exact q2 k hk⟩,⟨F',hp,Trn.foot st hF hl⟩,
  yQ h.ch (fun k hk=>kp k (hcl k (zC hk)) (by rw [h.lc k (zC hk)];decide)),fun k hk=>by rw [zB (hcl k hk)];exact h.lc k hk⟩
theorem FmC.space (h:FmC w0 w F0 s d p sp gp cP lab X pz) {F F':Nat->Prop} {P':List Int} (hF:∀k,F k->lab k=2) (hl:∀k,F k->k<w.heap.size) (hp:Sps.Spa w' sp F' P') (st:Step F F' w w'):FmC w0 w' F0 s d p sp gp cP (relab lab w.heap.size 2) {X with P:=P'} pz:=by
 have t:=Trn.of st hF;exact ⟨h.sto.space' hF hl hp st,h.lb.turn t (by decide) (Agr.relab _ 2 _),h.pg.keep t (by decide) (Agr.relab _ 2 _)⟩
theorem StoC.spaceG {aC:Option Addr} {cC:Nat} (h:StoC w s d p sp aC cC lab X) {F F':Nat->Prop} {P':List Int} (hF:∀k,F k->lab k=2) (hp:Sps.Spa w' sp F' P') (st:Step F F' w w') {g:Nat} (hn:¬F' g):StoC w' s d p sp aC cC (rel2 lab w.heap.size g 3 2) {X with P:=P'}:=by
 obtain ⟨F2,q1,q2⟩:=h.pool;have l2:=q1.lt;have t:=Trn.of st hF;have kp:∀k,k<w.heap.size->lab k≠2->w'.heap[k]?=w.heap[k]?:=fun k hk hl=>t.block hk hl
 have hlt:=h.lt;have ag:=Agr.rel2 w.heap.size g 3 2 lab;have hcl:∀k,obl aC k->k<w.heap.size:=fun k hk=>(World.ownsRow.lt h.ch k (zI hk)).2
 exact ⟨(kp s hlt (by rw [h.l0];decide)).trans h.cells,by rw [ag _ hlt];exact h.l0,⟨F2,q1.keep t.size (fun k hk=>kp k (l2 k hk) (by rw [q2 k hk];decide)),fun k hk=>by rw [ag _ (l2 k hk)];exact q2 k hk⟩,⟨F',hp,fun k hk=>by
  unfold rel2;by_cases hlt:k<w.heap.size
  ·rw [if_pos hlt];rcases st.2 k hk with e|e
   ·exact hF k e
   ·omega
  ·rw [if_neg hlt,if_neg (fun e=>hn (by rw [<-e];exact hk))]⟩,
  yQ h.ch (fun k hk=>kp k (hcl k (zC hk)) (by rw [h.lc k (zC hk)];decide)),fun k hk=>by rw [ag _ (hcl k hk)];exact h.lc k hk⟩
theorem FmC.fin (h:FmC w0 w F0 s d p sp gp cP lab X pz) (hc:Ch w.heap.size (fun k=>k=s) w w') {S':Sp} {pl' g':Int} (hb:w'.heap[s]?=some (.cells (stC d p sp S' pl' (.slice (some ⟨gp,0,none⟩) pz.length cP) g') 81 (0,0))):
  StoC w' s d p sp (some ⟨gp,0,none⟩) cP lab {X with S:=S',pl:=pl',C:=pz,g:=g'}/\LbC w0 w' F0 lab:=by
 have t:Trn lab 0 w w':=Trn.ch hc (fun k hk=>by rw [hk];exact h.sto.l0);have g:=fun (k:Nat) (_:k<w.heap.size)=>(rfl:lab k=lab k)
 obtain ⟨F1,p1,p2⟩:=h.sto.pool;obtain ⟨F2,q1,q2⟩:=h.sto.space;have l1:=p1.lt;have l2:=JA q1;have hp:=h.pg.keep t (by decide) g;exact ⟨⟨hb,h.sto.l0,⟨F1,p1.keep t.size (fun k hk=>t.block (l1 k hk) (by rw [p2 k hk];decide)),p2⟩,⟨F2,zH q1 t.size (fun k hk=>t.block (l2 k hk) (by rw [q2 k hk];decide)),q2⟩,hp.1,hp.2⟩,h.lb.turn t (by decide) g⟩
def FmI (w0 w1 wr:World) (F0:Nat->Prop) (s d p sp gp cP B N:Nat) (D0:Dv) (pz bs:List Int) (P:List Int) (S:Sp) (k:Nat) (D:Dv):Prop:=
 FmD D0 pz (ctL bs pz) k D/\∃lab,StoC wr s d p sp (some ⟨gp,0,none⟩) cP lab ⟨D,N,[],P,S,0,pz,1⟩/\LbC w0 wr F0 lab/\Kp9 B w1 wr lab
theorem stC_put (d p sp:Nat) (S0 S:Sp) (pl:Int) (vC:Value) (g:Int):(((((((((stC d p sp S0 pl vC g).setIfInBounds 3 (.int .i64 S.g)).setIfInBounds (3+1) (.int .i64 S.p)).setIfInBounds (3+2) (.int .i64 S.r)).setIfInBounds (3+3) (.int .i64 S.h)).setIfInBounds (3+4) (.int .i64 S.b)).setIfInBounds (3+5) (.int .i64 S.l)).setIfInBounds (3+6) (.int .i64 S.s)).setIfInBounds (3+7) (.int .i64 S.f))=stC d p sp S pl vC g:=by
 simp [stC]
theorem stC_end (d p sp:Nat) (S:Sp) (pl:Int) (vC vC':Value) (g g':Int):((stC d p sp S pl vC g).setIfInBounds 12 vC').setIfInBounds 13 (.int .i64 g')=stC d p sp S pl vC' g':=by
 simp [stC]
def FmE (w0:World) (F0:Nat->Prop) (s d p sp N n:Nat) (D0:Dv) (e:Ending) (w':World):Prop:=
 e=.returned (.tuple #[])/\∃D gp cP lab,FmD D0 (tkG (ned ((n+7)/8)) (newS n)) (ctL (bitL (trS 1 0 (tkS (ned ((n+7)/8)) (newS n)))) (tkG (ned ((n+7)/8)) (newS n))) (ned ((n+7)/8)) D/\
  StoC w' s d p sp (some ⟨gp,0,none⟩) cP lab ⟨syncD (writeD (writeD D 1 (List.replicate 256 0)) 0 (enZ (sup 1 n 0 (hd0 (tkG (ned ((n+7)/8)) (newS n)))))),N,[],trS 1 0 (tkS (ned ((n+7)/8)) (newS n)),sup 1 n 0 (hd0 (tkG (ned ((n+7)/8)) (newS n))),0,tkG (ned ((n+7)/8)) (newS n),1⟩/\LbC w0 w' F0 lab
set_option maxRecDepth 20000 in
theorem format_any {n N:Nat} {D0:Dv} (h:StoC w s d p sp none 0 lab ⟨D0,N,[],newS n,sp0,0,[],0⟩) (hlb:LbC w0 w F0 lab) (hn:D0.n=n) (h8:8<=n) (h4:n<=4096) (hw:Well D0) (hok:D0.ok) (hops:D0.ops+5000<=1000000000) (hsi:D0.since.length+5000<=1000000):
  Calls prog 50 #[.pointer (some ⟨s,0,none⟩)] w (FmE w0 F0 s d p sp N n D0):=by
 obtain ⟨m,hm⟩:∃m,ned ((n+7)/8)=m:=⟨_,rfl⟩;have hm3:1<=m/\m<=3:=by rw [<-hm];unfold ned;omega
 have hmc:m<=(newS n).count 0:=by rw [<-hm];exact XL h8 h4
 have hnd:=fun wx=>Chs.Need_v (((n+7)/8:Nat):Int) wx (by omega) (by omega)
 rw [show nedI (((n+7)/8:Nat):Int)=(m:Int) by rw [YJ,hm]] at hnd;obtain ⟨pz,hpz⟩:∃pz,tkG m (newS n)=pz:=⟨_,rfl⟩;obtain ⟨P2,hP2⟩:∃P2,trS 1 0 (tkS m (newS n))=P2:=⟨_,rfl⟩;have hpgs:=(XM h8 h4).pg hmc;rw [hpz] at hpgs;have hgl:pz.length=m:=by rw [<-hpz];exact zA m _
 have HK:Hid (D0.n=n/\8<=n/\n<=4096/\Well D0/\D0.ok/\D0.ops+5000<=1000000000/\D0.since.length+5000<=1000000/\ned ((n+7)/8)=m/\(1<=m/\m<=3)/\m<=(newS n).count 0/\tkG m (newS n)=pz/\trS 1 0 (tkS m (newS n))=P2):=⟨hn,h8,h4,hw,hok,hops,hsi,hm,hm3,hmc,hpz,hP2⟩;have HPZ:Hid (CtOk pz/\(∀z∈pz,z<(n:Int))/\pz.length=m):=⟨hpgs.1,hpgs.2.1,hgl⟩;have s2:=h.at.2.2.1;obtain ⟨F2,hp2,hF2⟩:=h.space;have hbt:=Sps.bits_any (w:=w.drew) (zH hp2 (jB _) (fun _ _=>rfl));rw [JT] at hbt;have H0:Hid (StoC w s d p sp none 0 lab ⟨D0,N,[],newS n,sp0,0,[],0⟩/\LbC w0 w F0 lab):=⟨h,hlb⟩;clear h hlb hn h8 h4 hw hok hops hsi hm hmc hp2 hF2 hpz hP2 hpgs hgl;go_enter func50,ntmps50
 go_wp2_with fail
 go_region_held3 (fun w'=>w'.cell? ⟨s,2,none⟩=some (.pointer (some ⟨sp,0,none⟩))) (first|go_keep|assumption) (first
  |(go_at_call 91;refine hbt.mono ?_;rintro e w1 ⟨g1,c1,rfl,-,k1'⟩
    have k1:Below w.heap.size w w1:=⟨k1'.os,k1'.tape,k1'.output,k1'.size,k1'.block⟩;have H1:Hid (∃lab1,StoC w1 s d p sp none 0 lab1 ⟨D0,N,[],newS n,sp0,0,[],0⟩/\LbC w0 w1 F0 lab1):=⟨relab lab w.heap.size 9,H0.out.1.keepL (i:=9) (by decide) (Trn.below k1) (Agr.relab _ 9 _),H0.out.2.turn (j:=9) (Trn.below k1) (by decide) (Agr.relab _ 9 _)⟩;obtain ⟨lab1,hs1,hl1⟩:=H1.out;have x2:=hs1.at.2.2.1;obtain ⟨F3,hp3,hF3⟩:=hs1.space;have htk:=take_any hp3 m (by omega);have HS1:Hid (StoC w1 s d p sp none 0 lab1 ⟨D0,N,[],newS n,sp0,0,[],0⟩/\LbC w0 w1 F0 lab1/\(∀k,F3 k->lab1 k=2)):=⟨hs1,hl1,hF3⟩;clear hbt k1' k1 H1 hs1 hl1 hp3 hF3 H0)
  |(go_at_call 90;refine (hnd _).mono ?_;rintro e w' ⟨rfl,rfl⟩;clear hnd)
  |(go_at_call 89;refine htk.mono ?_;rintro e w2 ⟨-,hd⟩
    have hd2:=hd.resolve_right (fun h=>h.1 HK.out.2.2.2.2.2.2.2.2.2.1);obtain ⟨_,aP,cP,rfl,ho,F4,h3,st3,hn3⟩:=hd2;obtain ⟨gp,rfl⟩:=XI ho (by rw [zA];omega);have hgp:=(World.ownsRow.lt ho gp rfl).1
    have H2:Hid (∃lab2,FmC w0 w2 F0 s d p sp gp cP lab2 ⟨D0,N,[],tkS m (newS n),sp0,0,[],0⟩ pz):=by
     obtain ⟨hs1,hl1,hF3⟩:=HS1.out;have hs2:=hs1.spaceG hF3 h3 st3 (hn3 gp ⟨_,rfl,rfl⟩);refine ⟨_,hs2,hl1.turn (Trn.of st3 hF3) (by decide) (Agr.rel2 _ _ _ _ _),?_,?_⟩
     ·rw [HPZ.out.2.2,<-HK.out.2.2.2.2.2.2.2.2.2.2.1];exact yX ho (fun _ _=>jT _)
     ·rintro k ⟨x,e,hx⟩;cases e;subst hx;unfold rel2;rw [if_neg (Nat.not_lt.2 hgp),if_pos rfl]
    have x2':w2.cell? ⟨s,2,none⟩=some (.pointer (some ⟨sp,0,none⟩)):=by
     obtain ⟨lab2,h2⟩:=H2.out;exact h2.sto.at.2.2.1
    clear htk hd ho h3 st3 hn3 hgp HS1))
 have hP2l:P2.length=n:=by rw [<-HK.out.2.2.2.2.2.2.2.2.2.2.2];simp [trS,JF,JT]
 obtain ⟨bs,hbs⟩:∃bs,bitL P2=bs:=⟨_,rfl⟩;obtain ⟨nb,hnb⟩:∃nb,(n+7)/8=nb:=⟨_,rfl⟩;have hbl:bs.length=nb:=by rw [<-hbs,<-hnb,<-hP2l];unfold bitL;exact yY _ _
 have hbb:Bys bs:=by rw [<-hbs];unfold bitL;exact zZ _ _
 have hnb4:nb<=1000:=by have:=HK.out.2.2.1;omega
 have hE0:ctE bs pz=0:=ctE_ok (by rw [HPZ.out.2.2,hbl,<-hnb];exact HK.out.2.2.2.2.2.2.2.1.symm) HPZ.out.1 (by omega);have HB:Hid (bitL P2=bs/\bs.length=nb/\Bys bs/\P2.length=n/\(n+7)/8=nb/\nb<=1000/\ctE bs pz=0):=⟨hbs,hbl,hbb,hP2l,hnb,hnb4,hE0⟩;clear hbs hnb hbl hbb hE0 hP2l;obtain ⟨lab2,hf2⟩:=H2.out;obtain ⟨F5,hp5,hF5⟩:=hf2.sto.space;have hcm:=Sps.commit_any hp5;have HF2:Hid (FmC w0 w2 F0 s d p sp gp cP lab2 ⟨D0,N,[],tkS m (newS n),sp0,0,[],0⟩ pz/\(∀k,F5 k->lab2 k=2)/\∀k,F5 k->k<w2.heap.size):=⟨hf2,hF5,JA hp5⟩;clear hf2 hp5 hF5 H2 s2
 go_wp2_with (first
  |(go_at_call 92;refine (check_ok _).mono ?_;rintro e w' ⟨rfl,rfl⟩)
  |(go_at_call 93;refine hcm.mono ?_;rintro e w3 ⟨rfl,F6,h6,st6⟩
    have H3:Hid (∃lab3,FmC w0 w3 F0 s d p sp gp cP lab3 ⟨D0,N,[],P2,sp0,0,[],0⟩ pz):=by
     have h:=HF2.out.1.space HF2.out.2.1 HF2.out.2.2 h6 st6;rw [HK.out.2.2.2.2.2.2.2.2.2.2.2] at h;exact ⟨_,h⟩
    obtain ⟨lab3,hf3⟩:=H3.out;have x3:=hf3.sto.at.2.2.1;obtain ⟨F7,hp7,hF7⟩:=hf3.sto.space;have hb3:=Sps.bits_any hp7;rw [HB.out.2.2.2.1,HB.out.2.2.2.2.1,HB.out.1] at hb3;have HF3:Hid (FmC w0 w3 F0 s d p sp gp cP lab3 ⟨D0,N,[],P2,sp0,0,[],0⟩ pz):=hf3;clear hcm h6 st6 hf3 hp7 hF7 H3 HF2 x2')
  |(go_at_call 91;refine hb3.mono ?_;rintro e w4 ⟨g4,c4,rfl,ho4,k4⟩
    have H4:Hid (∃lab4,FmC w0 w4 F0 s d p sp gp cP lab4 ⟨D0,N,[],P2,sp0,0,[],0⟩ pz):=⟨_,HF3.out.keep (i:=9) (by decide) (by decide) (Trn.below k4) (Agr.relab _ 9 _)⟩
    have hct:Calls prog 94 #[.slice (some ⟨g4,0,none⟩) nb c4,.slice (some ⟨gp,0,none⟩) m cP] w4 (CtR w4 bs pz):=by
     obtain ⟨lab4,hf4⟩:=H4.out;obtain ⟨a',c',e,hr⟩:=hf4.pg.1.row;simp only [Value.slice.injEq,true_and] at e;obtain ⟨rfl,rfl⟩:=e;have h:=Chs.Cut_v (some ⟨g4,0,none⟩) c4 bs (some ⟨gp,0,none⟩) cP pz w4 (ho4.row' HB.out.2.2.1).2 hr (by rw [HB.out.2.1];omega);rw [HB.out.2.1,HPZ.out.2.2] at h;exact h
    clear hb3 ho4 k4 HF3 x3)
  |(go_at_call 94;refine hct.mono ?_;rintro e w5 ⟨v,rfl,k1,k2⟩
    rw [HB.out.2.2.2.2.2.2];unfold ctZ at k1;rw [if_pos HB.out.2.2.2.2.2.2] at k1;obtain ⟨va,vc,rfl,hvc,hvm⟩:=k1.slice;rw [XB,HPZ.out.2.2] at hvc;unfold maxLen at hvm;have HS5:Hid (PgL w4.heap.size w5 (.slice va (ctL bs pz).length vc) (ctL bs pz)):=k1;rw [show (ctL bs pz).length=m from (XB bs pz).trans HPZ.out.2.2]
    have H5:Hid (∃lab5,FmC w0 w5 F0 s d p sp gp cP lab5 ⟨D0,N,[],P2,sp0,0,[],0⟩ pz/\w4.heap.size<=w5.heap.size/\s<w4.heap.size/\∀j,w4.heap.size<=j->lab5 j=9):=by
     obtain ⟨lab4,hf4⟩:=H4.out;exact ⟨relab lab4 w4.heap.size 9,hf4.keep (i:=9) (by decide) (by decide) (Trn.below k2) (Agr.relab _ 9 _),k2.size,hf4.sto.lt,fun j hj=>JH hj⟩
    clear hct k1 k2 H4))
 obtain ⟨lab5,hf5,hsz5,hsl5,hl5⟩:=H5.out;have s0:=hf5.sto.at.1;obtain ⟨z0,hz0⟩:∃z,pz.getD 0 0=z:=⟨_,rfl⟩;have gc0:=RowL.cellI hf5.pg rfl 0 (by rw [HPZ.out.2.2];omega);rw [hz0] at gc0;obtain ⟨F8,hp8,_⟩:=hf5.sto.pool;have hpg5:=QC (w:=w5.drew) (Pool.keep hp8 (jB _) (fun _ _=>rfl));dsimp only at hpg5;rw [HK.out.1] at hpg5;obtain ⟨wS,hst,hcS,hchS,hszS⟩:=StS_at (w:=w5.drew) (o:=3) (sup 1 n 0 z0) hf5.sto.cells (by simp [stC]);rw [stC_put] at hcS
 have hgs:¬gp=s:=fun e=>by
  have h1:=hf5.pg.2 gp ⟨_,rfl,rfl⟩;have h2:=hf5.sto.l0;rw [e] at h1;omega
 have hgl:gp<w5.heap.size:=(World.ownsRow.lt hf5.pg.1 gp rfl).2;have y0:wS.cell? ⟨s,0,none⟩=some (.pointer (some ⟨d,0,none⟩)):=by rw [cell_of_row _ _ _ _ _ (0,0) hcS];rfl
 have yg:wS.cell? ⟨gp,0,none⟩=some (.int .i64 z0):=(hchS.cell (p:=⟨gp,0,none⟩) hgl hgs).trans gc0;have y3:wS.cell? ⟨s,3,none⟩=some (.int .i64 1):=by rw [cell_of_row _ _ _ _ _ (0,0) hcS];rfl
 have y12:wS.cell? ⟨s,12,none⟩=some (.slice none 0 0):=by rw [cell_of_row _ _ _ _ _ (0,0) hcS];rfl
 have y13:wS.cell? ⟨s,13,none⟩=some (.int .i64 0):=by rw [cell_of_row _ _ _ _ _ (0,0) hcS];rfl
 have yf:∀i,wS.frozen? ⟨s,i,none⟩=false:=fun i=>by unfold World.frozen?;rw [hcS];simp
 have hm0:0<m:=by omega
 obtain ⟨w6,hw6⟩:∃w6,(wS.setCell ⟨s,12,none⟩ (.slice (some ⟨gp,0,none⟩) m cP)).setCell ⟨s,13,none⟩ (.int .i64 1)=w6:=⟨_,rfl⟩
 have H6:Hid (∃lab6,(StoC w6 s d p sp (some ⟨gp,0,none⟩) cP lab6 ⟨D0,N,[],P2,sup 1 n 0 z0,0,pz,1⟩/\LbC w0 w6 F0 lab6)/\(∀j,w4.heap.size<=j->j<w5.heap.size->w6.heap[j]?=w5.heap[j]?/\lab6 j=9)/\w4.heap.size<=w5.heap.size/\w6.heap.size=w5.heap.size/\∀j,w4.heap.size<=j->lab6 j=9):=by
  have hc6:Ch w5.heap.size (fun k=>k=s) w5 w6:=by
   rw [<-hw6];have h1:Ch w5.heap.size (fun k=>k=s) w5 wS:=⟨hchS.os,hchS.tape,hchS.output,hchS.size,hchS.block⟩;exact (h1.setCell (p:=⟨s,12,none⟩) (.inr rfl) _).setCell (p:=⟨s,13,none⟩) (.inr rfl) _
  have hb6:w6.heap[s]?=some (.cells (stC d p sp (sup 1 n 0 z0) 0 (.slice (some ⟨gp,0,none⟩) pz.length cP) 1) 81 (0,0)):=by
   rw [<-hw6,yO _ _ _ _ _ _ _ (yO _ _ _ _ _ _ _ hcS),stC_end,HPZ.out.2.2]
  exact ⟨lab5,hf5.fin hc6 hb6,fun j h1 h2=>⟨hc6.block j h2 (by omega),hl5 j h1⟩,hsz5,by rw [<-hw6,yP,yP];exact hszS,hl5⟩
 have hS:Hid (okS (sup 1 n 0 z0)=true):=by
  show okS (sup 1 n 0 z0)=true;have hmem:pz.getD 0 0∈pz:=by rw [jA,jC (by rw [HPZ.out.2.2];omega)];exact qB _
  have h1:=yW HPZ.out.1 _ hmem;have h2:=HPZ.out.2.1 _ hmem;have h3:=HK.out.2.1;have h4:=HK.out.2.2.1;exact FY (by omega) (by omega) (by omega) (by omega) (.inl rfl) (.inr ⟨by omega,by omega⟩)
 have HZ0:Hid (pz.getD 0 0=z0):=hz0;unfold spC sup at hst;dsimp only at hst;clear hcS hchS hszS hp8 H5 hf5 hsz5 hsl5 hl5 hz0;refine wp_region_held_drew (S:=fun w'=>w'.cell? ⟨s,0,none⟩=some (.pointer (some ⟨d,0,none⟩))/\w'.cell? ⟨gp,0,none⟩=some (.int .i64 z0)) (by kernel_rfl) ?_ (fun hHeld=>?_)
 ·(first|go_keep|exact ⟨by assumption,by assumption⟩)
 refine wpAnyH_take (i:=0) (v:=?_) rfl (by kernel_rfl) (by kernel_rfl) (by kernel_rfl) (fun _ _ _ h=>h) (Or.inl ⟨by rfl,?_⟩) (by assumption) ?_;rotate_left
 ·intro w hSw;(try dsimp only at hSw);go_simp;try with_reducible rfl
 simp only [jJ,jF,Act.put,jD,jL,jI];refine wpAnyH_take (i:=1) (v:=?_) rfl (by kernel_rfl) (by kernel_rfl) (by kernel_rfl) (fun _ _ _ h=>h) (Or.inl ⟨by rfl,?_⟩) (by assumption) ?_;rotate_left
 ·intro w hSw;(try dsimp only at hSw);go_simp;try with_reducible rfl
 simp only [jJ,jG,jF,Act.put,jD,jL,jI];refine wpAnyH_take (i:=2) (v:=?_) rfl (by kernel_rfl) (by kernel_rfl) (by kernel_rfl) (fun _ _ _ h=>h) (Or.inl ⟨by rfl,?_⟩) (by assumption) ?_;rotate_left
 ·intro w hSw;(try dsimp only at hSw);go_simp;try with_reducible rfl
 simp only [jJ,jG,jF,Act.put,jD,jL,jI];refine wpAnyH_take (i:=3) (v:=?_) rfl (by kernel_rfl) (by kernel_rfl) (by kernel_rfl) (fun _ _ _ h=>h) (Or.inl ⟨by rfl,?_⟩) (by assumption) ?_;rotate_left
 ·intro w hSw;(try dsimp only at hSw);go_simp;try with_reducible rfl
 simp only [jJ,jG,jF,Act.put,jD,jL,jI];refine wpAnyH_take (i:=4) (v:=?_) rfl (by kernel_rfl) (by kernel_rfl) (by kernel_rfl) (fun _ _ _ h=>h) (Or.inl ⟨by rfl,?_⟩) (by assumption) ?_;rotate_left
 ·intro w hSw;(try dsimp only at hSw);go_simp;try with_reducible rfl
 simp only [jJ,jG,jF,Act.put,jD,jL,jI];refine wpAnyH_take (i:=6) (v:=?_) rfl (by kernel_rfl) (by kernel_rfl) (by kernel_rfl) (fun _ _ _ h=>h) (Or.inl ⟨by rfl,?_⟩) (by assumption) ?_;rotate_left
 ·intro w hSw;(try dsimp only at hSw);go_simp;try with_reducible rfl
 simp only [jJ,jG,jF,Act.put,jD,jL,jI];refine wpAnyH_take (i:=7) (v:=?_) rfl (by kernel_rfl) (by kernel_rfl) (by kernel_rfl) (fun _ _ _ h=>h) (Or.inl ⟨by rfl,?_⟩) (by assumption) ?_;rotate_left
 ·intro w hSw;(try dsimp only at hSw);go_simp;try with_reducible rfl
 simp only [jJ,jG,jF,Act.put,jD,jL,jI];refine wpAnyH_take (i:=8) (v:=?_) rfl (by kernel_rfl) (by kernel_rfl) (by kernel_rfl) (fun _ _ _ h=>h) (Or.inl ⟨by rfl,?_⟩) (by assumption) ?_;rotate_left
 ·intro w hSw;(try dsimp only at hSw);go_simp;try with_reducible rfl
 simp only [jJ,jG,jF,Act.put,jD,jL,jI];refine wpAnyH_ready (rs:=[5]) (by kernel_rfl) (by simp) ?_;refine AllReadyH.cons rfl (fun K hK=>?_) AllReadyH.nil;go_simp
 (go_at_call 48;refine hpg5.mono ?_;rintro e w' ⟨rfl,rfl⟩)
 go_wp2_with fail
 refine hK.out _ _ ?_ (fun hHeld2=>?_)
 ·(first|go_keep|exact ⟨by assumption,by assumption⟩)
 clear hK K hHeld;have hHeld:=hHeld2;clear hHeld2;refine wpAnyH_take (i:=9) (v:=?_) rfl (by kernel_rfl) (by kernel_rfl) (by kernel_rfl) (fun _ _ _ h=>h) (Or.inl ⟨by rfl,?_⟩) (by assumption) ?_;rotate_left
 ·intro w hSw;(try dsimp only at hSw);go_simp;try with_reducible rfl
 simp only [jJ,jG,jF,Act.put,jD,jL,jI];refine wpAnyH_take (i:=10) (v:=?_) rfl (by kernel_rfl) (by kernel_rfl) (by kernel_rfl) (fun _ _ _ h=>h) (Or.inl ⟨by rfl,?_⟩) (by assumption) ?_;rotate_left
 ·intro w hSw;(try dsimp only at hSw);go_simp;try with_reducible rfl
 simp only [jJ,jG,jF,Act.put,jD,jL,jI];refine wpAnyH_take (i:=11) (v:=?_) rfl (by kernel_rfl) (by kernel_rfl) (by kernel_rfl) (fun _ _ _ h=>h) (Or.inl ⟨by rfl,?_⟩) (by assumption) ?_;rotate_left
 ·intro w hSw;(try dsimp only at hSw);go_simp;try with_reducible rfl
 simp only [jJ,jG,jF,Act.put,jD,jL,jI];refine wpAnyH_ready (rs:=[12]) (by kernel_rfl) (by simp) ?_;refine AllReadyH.cons rfl (fun K hK=>?_) AllReadyH.nil;go_simp
 skip
 go_wp2_with fail
 refine hK.out _ _ ?_ (fun hHeld2=>?_)
 ·(first|go_keep|exact ⟨by assumption,by assumption⟩)
 clear hK K hHeld;have hHeld:=hHeld2;clear hHeld2;refine wpAnyH_done (by kernel_rfl) ?_ _;clear hHeld hpg5 hst s0 gc0;go_upto_region 7 with fail
 obtain ⟨S,hSe⟩:∃S,sup 1 n 0 z0=S:=⟨_,rfl⟩;rw [hSe] at H6 hS;obtain ⟨lab6,⟨hs6,hl6⟩,hk6,hz6,hz6',hn6⟩:=H6.out;have x3:w6.cell? ⟨s,3,none⟩=some (.int .i64 S.g):=by rw [hs6.cell];rfl
 have x4:w6.cell? ⟨s,4,none⟩=some (.int .i64 S.p):=by rw [hs6.cell];rfl
 have x5:w6.cell? ⟨s,5,none⟩=some (.int .i64 S.r):=by rw [hs6.cell];rfl
 have x6:w6.cell? ⟨s,6,none⟩=some (.int .i64 S.h):=by rw [hs6.cell];rfl
 have x7:w6.cell? ⟨s,7,none⟩=some (.int .i64 S.b):=by rw [hs6.cell];rfl
 have x8:w6.cell? ⟨s,8,none⟩=some (.int .i64 S.l):=by rw [hs6.cell];rfl
 have x9:w6.cell? ⟨s,9,none⟩=some (.int .i64 S.s):=by rw [hs6.cell];rfl
 have x10:w6.cell? ⟨s,10,none⟩=some (.int .i64 S.f):=by rw [hs6.cell];rfl
 have hE:enE S=0:=by unfold enE;rw [if_pos hS.out]
 have hZl:(enZ S).length=256:=by rw [uT,if_pos hS.out]
 have hen:=encode_v S w6 0 hE (enZ S) rfl 256 hZl;have HL6:Hid ((StoC w6 s d p sp (some ⟨gp,0,none⟩) cP lab6 ⟨D0,N,[],P2,S,0,pz,1⟩/\LbC w0 w6 F0 lab6)/\(∀j,w4.heap.size<=j->j<w5.heap.size->w6.heap[j]?=w5.heap[j]?/\lab6 j=9)/\w4.heap.size<=w5.heap.size/\w6.heap.size=w5.heap.size/\∀j,w4.heap.size<=j->lab6 j=9):=⟨⟨hs6,hl6⟩,hk6,hz6,hz6',hn6⟩;have HSE:Hid (sup 1 n 0 z0=S/\(enZ S).length=256):=⟨hSe,hZl⟩;clear hw6 hs6 hl6 hk6 hz6 hz6' hn6 H6 hE hZl hSe y0 yg y3 y12 y13 yf
 go_wp2_with (first
  |(go_at_call 95;refine hen.mono ?_;rintro e w7 ⟨gz,cz,rfl,ho7,hb7⟩
    have H7:Hid (∃lab7,(StoC w7 s d p sp (some ⟨gp,0,none⟩) cP lab7 ⟨D0,N,[],P2,S,0,pz,1⟩/\LbC w0 w7 F0 lab7)/\(∀j,w4.heap.size<=j->lab7 j=9)/\PgL w4.heap.size w7 (.slice va m vc) (ctL bs pz)/\Own w4.heap.size w7 (.slice gz 256 cz) (enZ S)):=by
     obtain ⟨⟨h1,h2⟩,h3,h4,h5,h6⟩:=HL6.out;refine ⟨relab lab6 w6.heap.size 9,⟨h1.keepL (i:=9) (by decide) (Trn.below hb7) (Agr.relab _ 9 _),h2.turn (j:=9) (Trn.below hb7) (by decide) (Agr.relab _ 9 _)⟩,fun j hj=>?_,?_,yX ho7 (fun k hk=>by have:=World.ownsRow.lt ho7 k hk;omega)⟩
     ·by_cases hj2:j<w6.heap.size
      ·rw [zB hj2];exact h6 j hj
      ·exact JH (by omega)
     ·have h7:=HS5.out;rw [show (ctL bs pz).length=m from (XB bs pz).trans HPZ.out.2.2] at h7;exact PgL.keepB h7 (fun j h8 h9=>(hb7.block j (by omega)).trans (h3 j h8 h9).1)
    clear hen x3 x4 x5 x6 x7 x8 x9 x10 ho7 hb7 HL6 HS5)
  |(go_at_call 92;refine (check_ok _).mono ?_;rintro e w' ⟨rfl,rfl⟩))
 go_loopg [78] m (fun gh i wr=>∃(k:Nat) (D':Dv),k<=m/\gh=m-k/\i=.int .i64 (k:Int)/\Hid (FmI w0 w7 wr F0 s d p sp gp cP w4.heap.size N D0 pz bs P2 S k D'))
 case atStart=>
  obtain ⟨lab7,⟨h1,h2⟩,h3,_⟩:=H7.out;exact ⟨0,D0,jT _,rfl,rfl,⟨HK.out.2.2.2.2.1,HK.out.2.2.2.1,rfl,jB _,jB _,fun j hj=>absurd hj (Nat.not_lt_zero _)⟩,lab7,h1,h2,fun j hj _=>⟨rfl,h3 j hj⟩⟩
 case round=>
  obtain ⟨k,D',hk,hgk,rfl,HI⟩:=hrel;have HGK:Hid (gk=m-k):=hgk;clear hgk;by_cases hlt:k<m
  ·obtain ⟨hfd,labr,hs,hl,hk9⟩:=HI.out;obtain ⟨lab7,_,_,hpg7,_⟩:=H7.out;have s0:=hs.at.1;have hkp:k<pz.length:=by rw [HPZ.out.2.2];exact hlt
   have gck:=RowL.cellI (lab:=labr) (i:=3) ⟨hs.ch,hs.lc⟩ rfl k hkp;obtain ⟨qs,vcap,gs,gc,hv,hql,hsc0,hso0⟩:=PgL.atB hpg7 k (by rw [XB];exact hkp);have hgs7:=World.ownsRow.lt hso0 gs rfl;have hsc:=(World.cell?_of_block (w:=w7) (a:=⟨qs,k,none⟩) (hk9 qs hql.1 hql.2).1).trans hsc0;have hso:Own w4.heap.size wr (.slice (some ⟨gs,0,none⟩) ((ctL bs pz).getD k []).length gc) ((ctL bs pz).getD k []):=yQ hso0 (w':=wr) (fun j hj=>by have:=World.ownsRow.lt hso0 j hj;exact (hk9 j this.1 this.2).1);have hz256:((ctL bs pz).getD k []).length=256:=by rw [ctL_at _ _ _ hkp];exact uU ..
   have hzB:Bys ((ctL bs pz).getD k []):=by rw [ctL_at _ _ _ hkp];exact ZY (GN HB.out.2.2.1 k)
   rw [hz256] at hsc;simp only [Value.slice.injEq] at hv;have hva:=hv.1;have hvcc:=hv.2.2;clear hv;subst hva;subst hvcc;have hrow:=(Own.row' hso hzB).2;have hz2:=HPZ.out.1 k hkp;obtain ⟨pg,hpg⟩:∃pg:Nat,pz.getD k 0=(pg:Int):=⟨(pz.getD k 0).toNat,(qF (by omega)).symm⟩;have hpt:(pz.getD k 0).toNat=pg:=by rw [hpg];rfl
   have hpgn:(pz.getD k 0)<(n:Int):=HPZ.out.2.1 _ (by rw [jA,jC hkp];exact qB _);obtain ⟨F9,hp9,hF9⟩:=hs.pool;have hstep:=hfd.step HPZ.out.1 hkp (by rw [HK.out.1];exact HPZ.out.2.1) hz256 hzB;rw [hpt] at hstep;rw [hpg] at gck;have hwr:=YB (w:=wr.drew) (Pool.keep hp9 (jB _) (fun _ _=>rfl)) (by have h1:=hfd.ops;have h2:=HK.out.2.2.2.2.2.1;show D'.ops<=_;omega) (by have h1:=hfd.since;have h2:=HK.out.2.2.2.2.2.2.1;show D'.since.length<=_;omega) pg (by have h1:=hfd.n;have h2:=HK.out.1;show pg<D'.n;omega) (some ⟨gs,0,none⟩) gc ((ctL bs pz).getD k []) hrow hz256;dsimp only at hwr;rw [hfd.well.says] at hwr;have HT:Hid (StoC wr s d p sp (some ⟨gp,0,none⟩) cP labr ⟨D',N,[],P2,S,0,pz,1⟩/\LbC w0 wr F0 labr/\Kp9 w4.heap.size w7 wr labr/\(∀k,F9 k->labr k=1)/\(∀k,F9 k->k<wr.heap.size)/\FmD D0 pz (ctL bs pz) (k+1) (writeD D' pg ((ctL bs pz).getD k []))):=⟨hs,hl,hk9,hF9,hp9.lt,hstep⟩;clear HI hfd hs hl hk9 hpg7 hsc0 hso0 hgs7 hso hz256 hzB hrow hz2 hpg hpt hpgn hp9 hF9 hstep hql;go_wp2_with fail
   go_region_held3 (fun w'=>w'.cell? ⟨s,0,none⟩=some (.pointer (some ⟨d,0,none⟩))/\w'.cell? ⟨gp,k,none⟩=some (.int .i64 (pg:Int))) (first|go_keep|exact ⟨by assumption,by assumption⟩) (first
    |(go_at_call 96;refine hwr.mono ?_;rintro e w8 ⟨rfl,F10,hp10,st10'⟩
      have st10:=st10'.undrew
      have HQ:Hid (FmI w0 w7 w8 F0 s d p sp gp cP w4.heap.size N D0 pz bs P2 S (k+1) (writeD D' pg ((ctL bs pz).getD k []))):=by
       obtain ⟨a1,a2,a3,a4,a5,a6⟩:=HT.out;have t:=Trn.of st10 a4;exact ⟨a6,_,a1.pool' a4 a5 hp10 st10,a2.turn t (by decide) (Agr.relab _ 1 _),a3.turn t (by decide) (Agr.relab _ 1 _)⟩
      have x0:w8.cell? ⟨s,0,none⟩=some (.pointer (some ⟨d,0,none⟩)):=by obtain ⟨_,l,hl,_⟩:=HQ.out;exact hl.at.1
      have xg:w8.cell? ⟨gp,k,none⟩=some (.int .i64 (pg:Int)):=by
       obtain ⟨a1,_,_,a4,_,_⟩:=HT.out;exact (World.cell?_of_block (w:=wr) (a:=⟨gp,k,none⟩) (st10.1.block gp (World.ownsRow.lt a1.ch gp rfl).2 (fun e=>by have h1:=a4 gp e;have h2:=a1.lc gp ⟨_,rfl,rfl⟩;omega))).trans gck
      clear hwr hp10 st10 st10' HT)
    |(go_at_call 92;refine (check_ok _).mono ?_;rintro e w' ⟨rfl,rfl⟩))
   clear s0 gck hsc;go_wp2_with fail
   go_roundg (m-(k+1))
   case rel=>exact ⟨k+1,_,by omega,rfl,by go_num,HQ.out⟩
   case measure=>have:=HGK.out;omega
  ·obtain rfl:k=m:=by omega
   obtain ⟨i0,hi0,hz0,hz1,hz2⟩:=info_parts info5;have hm256:256<=maxLen:=by unfold maxLen;omega
   obtain ⟨hfd,labr,hs,hl,hk9⟩:=HI.out;obtain ⟨lab7,_,_,_,hoz7⟩:=H7.out;have s0:=hs.at.1;have hoz:Own w4.heap.size wr (.slice gz 256 cz) (enZ S):=yQ hoz7 (fun j hj=>by have:=World.ownsRow.lt hoz7 j hj;exact (hk9 j this.1 this.2).1);have HT:Hid (StoC wr s d p sp (some ⟨gp,0,none⟩) cP labr ⟨D',N,[],P2,S,0,pz,1⟩/\LbC w0 wr F0 labr/\Kp9 w4.heap.size w7 wr labr/\FmD D0 pz (ctL bs pz) k D'/\Own w4.heap.size wr (.slice gz 256 cz) (enZ S)):=⟨hs,hl,hk9,hfd,hoz⟩;obtain ⟨w8,hrun,how8,hgr8⟩:=run_make_full (P:=prog) (w:=wr.drew) wr.drew.heap.size 32 5 i0 (.int .u8 0) 1 underlying32 hi0 hz0 hz1 .i64 .i64 256 (by rw [hz2];omega) hm256 (jB _);rw [show ((256:Nat):Int)=256 from rfl] at hrun
   have hb8:Below wr.heap.size wr w8:=by
    have h:=(Below.refl wr.drew.heap.size wr.drew).grown hgr8 (jB _) (by simp);exact ⟨h.os,h.tape,h.output,h.size,h.block⟩
   have hz8:Own wr.heap.size w8 (.slice (some ⟨wr.heap.size,0,none⟩) 256 256) (List.replicate 256 0):=JJ how8;have hs8:=hs.keepL (i:=9) (by decide) (Trn.below hb8) (Agr.relab _ 9 _);have hl8:=hl.turn (j:=9) (Trn.below hb8) (by decide) (Agr.relab _ 9 _);have x0:=hs8.at.1;obtain ⟨F9,hp9,hF9⟩:=hs8.pool;obtain ⟨no1,nn1⟩:D'.ops<=999999000/\D'.since.length<=999000:=by have h1:=hfd.ops;have h2:=hfd.since;have h3:=HK.out.2.2.2.2.2.1;have h4:=HK.out.2.2.2.2.2.2.1;omega
   have hn8:8<=D'.n:=hfd.ok.n8;have hwr:=YB hp9 (by show D'.ops<=_;omega) (by show D'.since.length<=_;omega) 1 (by show 1<D'.n;omega) (some ⟨wr.heap.size,0,none⟩) 256 (List.replicate 256 0) (hz8.row' (XC 256)).2 jK;dsimp only at hwr;rw [hfd.well.says,show ((1:Nat):Int)=1 from rfl] at hwr
   have HT:Hid (StoC w8 s d p sp (some ⟨gp,0,none⟩) cP (relab labr wr.heap.size 9) ⟨D',N,[],P2,S,0,pz,1⟩/\LbC w0 w8 F0 (relab labr wr.heap.size 9)/\FmD D0 pz (ctL bs pz) k D'/\Own w4.heap.size w8 (.slice gz 256 cz) (enZ S)/\(∀k,F9 k->relab labr wr.heap.size 9 k=1)/\(∀k,F9 k->k<w8.heap.size)/\D'.ops<=999999000/\D'.since.length<=999000/\8<=D'.n/\∀j,(Value.slice gz 256 cz).ownBlock=some j->relab labr wr.heap.size 9 j=9):=
    ⟨hs8,hl8,hfd,yQ hoz (fun j hj=>hb8.block j (World.ownsRow.lt hoz j hj).2),hF9,hp9.lt,no1,nn1,hn8,fun j hj=>by
     have h1:=World.ownsRow.lt hoz j hj;have h7:=World.ownsRow.lt hoz7 j hj;rw [zB h1.2];exact (hk9 j h7.1 h7.2).2⟩
   clear HI H7 hfd hs hl hk9 hoz7 hoz how8 hgr8 hb8 hz8 hs8 hl8 hp9 hF9 no1 nn1 hn8 hi0 hz0 hz1 hz2 hm256;have s0d:wr.drew.cell? ⟨s,0,none⟩=some (.pointer (some ⟨d,0,none⟩)):=s0;rw [show wr.drew.heap.size=wr.heap.size from rfl] at hrun;go_wp2_with fail
   go_region_held3 (fun w'=>w'.cell? ⟨s,0,none⟩=some (.pointer (some ⟨d,0,none⟩))) (first|go_keep|assumption) (first
    |(go_at_call 96;refine hwr.mono ?_;rintro e w9 ⟨rfl,F10,hp10,st10⟩
      have H9:Hid (∃lab9,StoC w9 s d p sp (some ⟨gp,0,none⟩) cP lab9 ⟨writeD D' 1 (List.replicate 256 0),N,[],P2,S,0,pz,1⟩/\LbC w0 w9 F0 lab9/\Own w4.heap.size w9 (.slice gz 256 cz) (enZ S)):=by
       obtain ⟨a1,a2,a3,a4,a5,a6,_,_,_,a10⟩:=HT.out;have t:=Trn.of st10 a5;refine ⟨_,a1.pool' a5 a6 hp10 st10,a2.turn t (by decide) (Agr.relab _ 1 _),yQ a4 (fun j hj=>?_)⟩;have h1:=World.ownsRow.lt a4 j hj;have h2:=a10 j hj;exact t.block h1.2 (by omega)
      have y0:w9.cell? ⟨s,0,none⟩=some (.pointer (some ⟨d,0,none⟩)):=by obtain ⟨l,h1,_⟩:=H9.out;exact h1.at.1
      clear hwr hp10 st10)
    |(go_at_call 92;refine (check_ok _).mono ?_;rintro e w' ⟨rfl,rfl⟩))
   clear x0 s0 s0d hrun;obtain ⟨lab9,hs9,hl9,hoz9⟩:=H9.out
   obtain ⟨b1,b2,b3,b4⟩:FmD D0 pz (ctL bs pz) k D'/\D'.ops<=999999000/\D'.since.length<=999000/\8<=D'.n:=by
    obtain ⟨_,_,a3,_,_,_,a7,a8,a9,_⟩:=HT.out;exact ⟨a3,a7,a8,a9⟩
   obtain ⟨u1,u2,u3⟩:=b1.well.writeS 1 (List.replicate 256 0);have hwl:=b1.well.write 1 (List.replicate 256 0);obtain ⟨D1,hD1⟩:∃D1,writeD D' 1 (List.replicate 256 0)=D1:=⟨_,rfl⟩;rw [hD1] at hs9 u1 u2 u3 hwl H9;have hn1:D1.n=D'.n:=by rw [<-hD1,zO]
   have v0:=hs9.at.1;have v11:w9.cell? ⟨s,11,none⟩=some (.int .i64 0):=hs9.at.2.2.2.1;obtain ⟨F9b,hp9,hF9⟩:=hs9.pool;have hu1:D1.since.length<=999001:=by rw [u1,jN,List.length_singleton];omega
   have hwr:=YB (w:=w9.drew) (Pool.keep hp9 (jB _) (fun _ _=>rfl)) (by show D1.ops<=_;omega) (by show D1.since.length<=_;omega) 0 (by show 0<D1.n;omega) gz cz (enZ S) (hoz9.row' (ZB S)).2 HSE.out.2;dsimp only at hwr;rw [hwl.says,show ((0:Nat):Int)=0 from rfl] at hwr;have HT2:Hid (StoC w9 s d p sp (some ⟨gp,0,none⟩) cP lab9 ⟨D1,N,[],P2,S,0,pz,1⟩/\LbC w0 w9 F0 lab9/\(∀k,F9b k->lab9 k=1)/\(∀k,F9b k->k<w9.heap.size)/\Well D1/\D1.ops<=999999001/\FmD D0 pz (ctL bs pz) k D'/\writeD D' 1 (List.replicate 256 0)=D1):=⟨hs9,hl9,hF9,hp9.lt,hwl,by omega,b1,hD1⟩;clear HT H9 hs9 hl9 hoz9 b1 b2 b3 b4 u1 u2 u3 hwl hn1 hp9 hF9 hu1 hD1 y0;go_wp2_with fail
   go_region_held3 (fun w'=>w'.cell? ⟨s,0,none⟩=some (.pointer (some ⟨d,0,none⟩))/\w'.cell? ⟨s,11,none⟩=some (.int .i64 0)) (first|go_keep|exact ⟨by assumption,by assumption⟩) (first
    |(go_at_call 96;refine hwr.mono ?_;rintro e w10 ⟨rfl,F10b,hp10,st10'⟩
      have st10:=st10'.undrew
      have H10:Hid (∃lab10,StoC w10 s d p sp (some ⟨gp,0,none⟩) cP lab10 ⟨writeD D1 0 (enZ S),N,[],P2,S,0,pz,1⟩/\LbC w0 w10 F0 lab10):=by
       obtain ⟨a1,a2,a3,a4,_⟩:=HT2.out;have t:=Trn.of st10 a3;exact ⟨_,a1.pool' a3 a4 hp10 st10,a2.turn t (by decide) (Agr.relab _ 1 _)⟩
      have z0':w10.cell? ⟨s,0,none⟩=some (.pointer (some ⟨d,0,none⟩)):=by obtain ⟨l,h1,_⟩:=H10.out;exact h1.at.1
      have z11':w10.cell? ⟨s,11,none⟩=some (.int .i64 0):=by obtain ⟨l,h1,_⟩:=H10.out;exact h1.at.2.2.2.1
      clear hwr hp10 st10 st10')
    |(go_at_call 92;refine (check_ok _).mono ?_;rintro e w' ⟨rfl,rfl⟩))
   clear v0 v11 z11';obtain ⟨lab10,hs10,hl10⟩:=H10.out;obtain ⟨F11,hp11,hF11⟩:=hs10.pool;have hwl:=HT2.out.2.2.2.2.1;have hsy:=FQ hp11 (by have h1:=(hwl.writeS 0 (enZ S)).2.2;have h2:=HT2.out.2.2.2.2.2.1;show (writeD D1 0 (enZ S)).ops<=_;omega);dsimp only at hsy;rw [(hwl.write 0 (enZ S)).says] at hsy;have HT3:Hid (StoC w10 s d p sp (some ⟨gp,0,none⟩) cP lab10 ⟨writeD D1 0 (enZ S),N,[],P2,S,0,pz,1⟩/\LbC w0 w10 F0 lab10/\(∀k,F11 k->lab10 k=1)/\∀k,F11 k->k<w10.heap.size):=⟨hs10,hl10,hF11,hp11.lt⟩;clear H10 hs10 hl10 hp11 hF11 hwl
   go_wp2_with (first
    |(go_at_call 97;refine hsy.mono ?_;rintro e w11 ⟨rfl,F12,hp12,st12⟩
      have H12:Hid (∃lab12,StoC w11 s d p sp (some ⟨gp,0,none⟩) cP lab12 ⟨syncD (writeD D1 0 (enZ S)),N,[],P2,S,0,pz,1⟩/\LbC w0 w11 F0 lab12):=by
       obtain ⟨a1,a2,a3,a4⟩:=HT3.out;have t:=Trn.of st12 a3;exact ⟨_,a1.pool' a3 a4 hp12 st12,a2.turn t (by decide) (Agr.relab _ 1 _)⟩
      clear hsy hp12 st12)
    |(go_at_call 92;refine (check_ok _).mono ?_;rintro e w' ⟨rfl,rfl⟩))
   refine bodyPost_ret (results_none rfl _ _ _) rfl ?_;obtain ⟨lab12,q1,q2⟩:=H12.out;obtain ⟨_,_,_,_,_,_,r1,r2⟩:=HT2.out;obtain ⟨_,_,_,_,_,_,_,k8,_,_,k11,k12⟩:=HK.out;unfold FmE;rw [k8,k11,k12,HB.out.1,show hd0 pz=z0 from HZ0.out,HSE.out.1];exact ⟨rfl,D',gp,cP,lab12,r1,by rw [r2];exact q1,q2⟩
end
end Go.Proofs.YtaijfhadecennaaGreat.Oct.Sx
namespace Go.Proofs.YtaijfhadecennaaGreat.Oct.Sx
open Go.RowKit
theorem rea_iff {n:Nat} {A F:List Int} (h:CtOk (A++F)) (hn:∀z∈A++F,z<(n:Int)) {z:Int}:z∈rsB (reaL n [] (natL A) (natL F)) n↔z∈A++F:=by
 constructor
 ·exact fun hz=>(gG h z hz).2
 ·intro hz;have h2:=yW h z hz;have h3:=hn z hz;refine (VR n).2 ⟨z.toNat,by omega,by omega,?_⟩;rw [uB (by omega)];rcases List.mem_append.1 hz with h4|h4
  ·have:z.toNat∈natL A:=List.mem_map.2 ⟨z,h4,rfl⟩;simp [this]
  ·have:z.toNat∈natL F:=List.mem_map.2 ⟨z,h4,rfl⟩;simp [this]
structure Fmt (n N:Nat) (D0:Dv) (X:St) (r:Rp):Prop where
 i:In X.D X.N X.L X.P X.S 0 X.C X.g r []
 pl:X.pl=0
 well:Well X.D
 since:X.D.since=[]
 dn:X.D.n=n
 ops:X.D.ops<=D0.ops+10
 fr:X.N=N
 g:X.g=1
 S:X.S=sup 1 n 0 (hd0 X.C)
 rs:r.s=X.S
 st:r.st=[]
 zo:∀k,k<n->X.P.getD k 0=0\/X.P.getD k 0=1
 cl:X.C.length=ned ((n+7)/8)
 rp:r.pg.length=X.C.length
 rc:∀z,z∈r.pg↔z∈X.C
 C:X.C=tkG (ned ((n+7)/8)) (newS n)
 P:X.P=trS 1 0 (tkS (ned ((n+7)/8)) (newS n))
section
variable {w:World} {d N n:Nat} {Fd:Nat->Prop} {D0:Dv}
set_option maxRecDepth 20000 in
theorem Format_yes (h:Dev w d Fd D0) (h8N:8<=N) (h4N:N<=4096) (hn:D0.n=n) (hw:Well D0) (hok:D0.ok) (hops:D0.ops+5000<=1000000000) (hsi:D0.since.length+5000<=1000000):
  Calls prog 11 #[.pointer (some ⟨d,0,none⟩),.int .i64 N] w fun e w'=>∃s X r,e=.returned (.tuple #[.pointer (some ⟨s,0,none⟩),.int .i64 0])/\StoO w w' Fd s d X/\Fmt n N D0 X r:=by
 have h8:8<=n:=by rw [<-hn];exact hok.n8
 have h4:n<=4096:=by rw [<-hn];exact hok.n4
 have hp:=pNew_yes h N h8N h4N;have HK:Hid (D0.n=n/\8<=n/\n<=4096/\Well D0/\D0.ok/\D0.ops+5000<=1000000000/\D0.since.length+5000<=1000000):=⟨hn,h8,h4,hw,hok,hops,hsi⟩;clear h hn h8 h4 hw hok hops hsi h8N h4N;have hmf:∀(fn:Fn) (first cap:Array Value) (w:World),(Instr.makeFunc fn first cap).run prog w=.ok (.func fn first cap) w:=fun _ _ _ _=>rfl
 go_enter func11,ntmps11
 go_upto_region 8 with (first
  |(go_at_call 46;refine hp.mono ?_;rintro e w1 ⟨p,F1,rfl,h1,h2,h3,h4⟩
    have hpg:=QC h1;rw [HK.out.1] at hpg;have hsn:=Sps.new_yes n w1 HK.out.2.1 HK.out.2.2.1;have H1:Hid (Pool w1 p d F1 D0 N []/\Below w.heap.size w w1/\(∀k,F1 k->Fd k\/w.heap.size<=k)):=⟨h1,h2,h3⟩;clear hp h1 h2 h3 h4)
  |(go_at_call 48;refine hpg.mono ?_;rintro e w' ⟨rfl,rfl⟩;clear hpg)
  |(go_at_call 47;refine hsn.mono ?_;rintro e w2 ⟨sp,F2,rfl,k1,k2,k3⟩
    have H2:Hid (Sps.Spa w2 sp F2 (newS n)/\Below w1.heap.size w1 w2/\∀k,F2 k->w1.heap.size<=k):=⟨k1,k2,k3⟩;clear hsn k1 k2 k3))
 obtain ⟨w3,hw3⟩:∃w3,w2.alloc (Obj.cells #[Value.pointer (some {block:=d,off:=0}),Value.pointer (some {block:=p,off:=0}),Value.pointer (some {block:=sp,off:=0}),Value.int IntKind.i64 0,Value.int IntKind.i64 0,Value.int IntKind.i64 0,Value.int IntKind.i64 0,Value.int IntKind.i64 0,Value.int IntKind.i64 0,Value.int IntKind.i64 0,Value.int IntKind.i64 0,Value.int IntKind.i64 0,Value.slice none 0 0,Value.int IntKind.i64 0,Value.pointer none,Value.map none] 81)=w3:=⟨_,rfl⟩;rw [hw3];obtain ⟨s,hs⟩:∃s,w2.heap.size=s:=⟨_,rfl⟩
 have H3:Hid (∃lab,StoC w3 s d p sp none 0 lab ⟨D0,N,[],newS n,sp0,0,[],0⟩/\LbC w w3 Fd lab):=by
  show ∃lab,_
  classical
  obtain ⟨h1,h2,h3⟩:=H1.out;obtain ⟨k1,k2,k3⟩:=H2.out;have l1:=h1.lt;have l2:=JA k1;have hb:Below w2.heap.size w2 w3:=by rw [<-hw3];exact (Below.refl _ w2).alloc (jB _) _
  have hz:=k2.size;have hz2:=h2.size;have hc:w3.heap[s]?=some (.cells (stC d p sp sp0 0 (.slice none 0 0) 0) 81 (0,0)):=by rw [<-hw3,<-hs];exact heap_alloc_new w2 _
  have n1:∀k,F2 k->¬F1 k:=fun k a b=>by have:=k3 k a;have:=l1 k b;omega
  have ns1:¬F1 s:=fun e=>by have:=l1 s e;omega
  have ns2:¬F2 s:=fun e=>by have:=l2 s e;omega
  refine ⟨fun k=>if F1 k then 1 else if F2 k then 2 else if k=s then 0 else 10,⟨hc,?_,⟨F1,(h1.below k2).below hb,fun k hk=>if_pos hk⟩,⟨F2,zH k1 hb.size (fun k hk=>hb.block k (l2 k hk)),fun k hk=>?_⟩,⟨rfl,.inl ⟨rfl,rfl⟩⟩,fun k hk=>?_⟩,⟨fun k hk=>?_,?_⟩⟩
  ·show (if F1 s then 1 else if F2 s then 2 else if s=s then 0 else 10)=0;rw [if_neg ns1,if_neg ns2,if_pos rfl]
  ·show (if F1 k then 1 else if F2 k then 2 else if k=s then 0 else 10)=2;rw [if_neg (n1 k hk),if_pos hk]
  ·obtain ⟨x,e,_⟩:=hk;cases e
  ·replace hk:(if F1 k then 1 else if F2 k then 2 else if k=s then 0 else 10)<=9:=hk
   split at hk
   ·next a=>exact h3 k a
   ·split at hk
    ·next a b=>have:=k3 k b;exact .inr (by omega)
    ·split at hk
     ·next a b c=>exact .inr (by omega)
     ·omega
  ·exact Ch.of Fd ((h2.trans (k2.mono h2.size)).trans (hb.mono (by omega)))
 obtain ⟨lab3,hs3,hl3⟩:=H3.out;have hbx:Below w3.heap.size w3 (bxG w3):=((Below.refl _ w3).alloc (jB _) _).alloc (by simp) _;have hbs:(bxG w3).heap.size=w3.heap.size+2:=by unfold bxG;simp
 have hbe:(bxG w3).heap[w3.heap.size+1]?=some (.cells #[.int .i64 0] 25 (0,0)):=heap_alloc2_new w3 _ _;obtain ⟨lb,hlb⟩:∃l,relab lab3 w3.heap.size 10=l:=⟨_,rfl⟩;have hsB:=hs3.keepL (i:=9) (by decide) (Trn.below hbx) (Agr.relab w3.heap.size 10 lab3);have hlB:=hl3.turn (j:=9) (Trn.below hbx) (by decide) (Agr.relab w3.heap.size 10 lab3);rw [hlb] at hsB hlB;have lb10:∀k,w3.heap.size<=k->lb k=10:=fun k hk=>by rw [<-hlb];exact JH hk
 have hfm:=format_any (w0:=bxG w3) (F0:=fun k=>lb k<=9) hsB ⟨fun _ hk=>.inl hk,Ch.refl _ _ _⟩ HK.out.1 HK.out.2.1 HK.out.2.2.1 HK.out.2.2.2.1 HK.out.2.2.2.2.1 HK.out.2.2.2.2.2.1 HK.out.2.2.2.2.2.2
 have hca:=caught_fmt w3 s (fun w1=>FmE (bxG w3) (fun k=>lb k<=9) s d p sp N n D0 (.returned (.tuple #[])) w1) (hfm.mono (by
  rintro e w1 he;have he2:=he;obtain ⟨rfl,D,gp,cP,lab,_,_,h3⟩:=he;have hh:w1.heap[w3.heap.size+1]?=some (.cells #[.int .i64 0] 25 (0,0)):=(h3.ch.block (w3.heap.size+1) (by omega) (by rw [lb10 _ (by omega)];omega)).trans hbe;exact ⟨rfl,by rw [cell_of_row _ _ _ _ _ (0,0) hh];rfl,by unfold World.frozen?;rw [hh];simp,he2⟩))
 have HC:Hid (LbC w (bxG w3) Fd lb/\(∀k,w3.heap.size<=k->lb k=10)/\(bxG w3).heap.size=w3.heap.size+2/\w.heap.size<=w3.heap.size):=⟨hlB,lb10,hbs,hl3.ch.size⟩;rw [hs];clear H1 H2 H3 hs3 hl3 hbx hbs hbe hlb hsB hlB lb10 hfm hw3 hs;go_wp2_with (go_at_call 49;refine hca.mono ?_;rintro e w4 ⟨w5,rfl,hF,rfl⟩)
 go_ret2
 obtain ⟨_,D,gp,cP,lab,f1,f2,f3⟩:=hF;obtain ⟨c1,c2,c3,c4⟩:=HC.out;have hc5:Ch w5.heap.size (fun k=>k=w3.heap.size+1) w5 (w5.setCell ⟨w3.heap.size+1,0,none⟩ (.int .i64 0)):=Ch.set (F:=fun k=>k=w3.heap.size+1) (p:=w3.heap.size+1) rfl 0 _
 have hl10:10<=lab (w3.heap.size+1):=by
  by_cases h9:lab (w3.heap.size+1)<=9
  ·rcases f3.old _ h9 with h4|h4
   ·rw [c2 _ (by omega)] at h4;omega
   ·omega
  ·omega
 have f4:=f3.base c1;have hst:=f2.keepL (i:=lab (w3.heap.size+1)) (by omega) (Trn.ch hc5 (fun k hk=>by rw [hk])) (Agr.refl _ lab);have hlb:=f4.box (by omega) hc5;obtain ⟨i1,i2,i3,i4,i5,i6⟩:=fmt_in f1 HK.out.1 HK.out.2.1 HK.out.2.2.1 rfl rfl rfl N rfl;have hdn:=(XM HK.out.2.1 HK.out.2.2.1).done (XL HK.out.2.1 HK.out.2.2.1);refine ⟨s,_,_,rfl,hst.toO hlb,{i:=i2,pl:=rfl,well:=i3,since:=i4,dn:=i5,ops:=?_,fr:=rfl,g:=rfl,S:=rfl,rs:=rfl,st:=rfl,zo:=fun k hk=>hdn.2 k hk,cl:=zA _ _,rp:=?_,rc:=fun z=>?_,C:=rfl,P:=rfl}⟩;have h3:ned ((n+7)/8)<=3:=by have:=HK.out.2.2.1;unfold ned;omega
 ·exact jP i6 (by omega)
 ·have hpg:=(XM HK.out.2.1 HK.out.2.2.1).pg (XL HK.out.2.1 HK.out.2.2.1);show (rsB (reaL n [] (natL []) (natL (tkG (ned ((n+7)/8)) (newS n)))) n).length=_;rw [rea_len (A:=[]) hpg.1 hpg.2.1];simp
 ·have hpg:=(XM HK.out.2.1 HK.out.2.2.1).pg (XL HK.out.2.1 HK.out.2.2.1);exact rea_iff (A:=[]) hpg.1 hpg.2.1
end
end Go.Proofs.YtaijfhadecennaaGreat.Oct.Sx
namespace Go.Proofs.YtaijfhadecennaaGreat.Oct
open Go.RowKit
theorem conv_row {w:World} {a:Option Addr} {c n:Nat} {xs:List Int} (h:Row w a c xs) (hn:xs.length=n):(convert 32 9 (.slice a n c)).run prog w=.ok (.string (strOfNums xs)) w:=by
 subst hn;rcases Nat.eq_zero_or_pos xs.length with h0|h0
 ·obtain rfl:xs=[]:=qE h0;rw [run_convert_bytes_string w 32 9 5 _ _ c underlying32 underlying5 underlying9];cases a<;>simp [Conv.bytesToString,loadCells]
  all_goals rfl
 ·obtain ⟨b,off,rfl⟩:=h.some' h0;exact run_convert_bytes_arg w 32 5 underlying32 underlying5 b off xs.length c xs rfl (fun i hi=>h.cells i hi) 9 underlying9
theorem u8_inj {x y:Int} (hx:0<=x/\x<=255) (hy:0<=y/\y<=255) (h:UInt8.ofNat x.toNat=UInt8.ofNat y.toNat):x=y:=by
 have:=congrArg UInt8.toNat h;simp at this;omega
theorem map_inj {xs:List Int}:∀{ys:List Int},Bys xs->Bys ys->xs.map (fun n=>UInt8.ofNat n.toNat)=ys.map (fun n=>UInt8.ofNat n.toNat)->xs=ys:=by
 induction xs with
 |nil=>intro ys _ _ h;cases ys with|nil=>rfl|cons y ys=>simp at h
 |cons x xs ih=>
  intro ys hx hy h;cases ys with
  |nil=>simp at h
  |cons y ys=>
   simp only [qQ,List.cons.injEq] at h;rw [u8_inj (hx x (yB ..)) (hy y (yB ..)) h.1,ih (fun z hz=>hx z (jM _ hz)) (fun z hz=>hy z (jM _ hz)) h.2]
theorem str_eq {xs ys:List Int} (hx:Bys xs) (hy:Bys ys):((strOfNums xs).toList==(strOfNums ys).toList)=decide (xs=ys):=by
 by_cases h:xs=ys
 ·subst h;simp
 ·rw [jH h,xG];intro e;refine h (map_inj hx hy ?_);rw [<-strOfNums_data,<-strOfNums_data,<-Lib.toList_data,<-Lib.toList_data];exact e
theorem equal_v {w:World} {a1 a2:Option Addr} {c1 c2 n1 n2:Nat} {xs ys:List Int} (h1:Row w a1 c1 xs) (h2:Row w a2 c2 ys) (e1:xs.length=n1) (e2:ys.length=n2) (b:Bool) (hb:decide (xs=ys)=b):
  Calls prog 194 #[.slice a1 n1 c1,.slice a2 n2 c2] w fun e w'=>e=.returned (.bool b)/\w=w':=by
 have k1:=conv_row h1 e1;have k2:=conv_row h2 e2;have k3:=str_eq h1.1 h2.1;rw [hb] at k3;obtain ⟨s1,hs1⟩:∃s,strOfNums xs=s:=⟨_,rfl⟩;obtain ⟨s2,hs2⟩:∃s,strOfNums ys=s:=⟨_,rfl⟩;rw [hs1] at k1 k3;rw [hs2] at k2 k3;clear h1 h2 e1 e2 hb hs1 hs2;go_enter func194,ntmps194
 go_wp2;go_ret
 exact ⟨rfl,rfl⟩
end Go.Proofs.YtaijfhadecennaaGreat.Oct
