import Derived.Test.YtaijfhadecennaaGreatEno
import Derived.Test.YtaijfhadecennaaGreatGb
import Derived.WalkKit
import Derived.ProofKit
import Derived.OpenShut
import Derived.ShutString
import Derived.ChangeOld
import Derived.Below
open Go.Proofs.Tryz
namespace Go.Proofs.YtaijfhadecennaaGreat.storeFails
open Go.ChangeShapes Go.WideShapes Go.ChangeAt Go.RowKit
open Go.Proofs.YtaijfhadecennaaGreat.Oct Go.Proofs.YtaijfhadecennaaGreat.Oct.Sx
set_option linter.unusedVariables false
def Inn (w:World) (v:Value) (zs:List Int):Prop:=∃a c,v=.slice a zs.length c/\Row w a c zs/\(zs=[]\/∀k,obl a k->k<w.heap.size)
theorem Inn.nil (w:World):Inn w (.slice none 0 0) []:=⟨none,0,rfl,row0 w,.inl rfl⟩
theorem Inn.of {w:World} {b o:Nat} {d:Bx} (h:BxAt' w b o d):Inn w (.slice d.a d.z.length d.c) d.z:=
 ⟨d.a,d.c,rfl,h.row,(row_lt h.row).imp id (fun hh k ⟨x,e,hx⟩=>by rw [<-hx];exact hh x e)⟩
structure FlI (w wr:World) (B s d N c:Nat) (X:Sx.St) (pl:Nat) (r:Rp) (T:List (Sp × Rp)) (last:List Int) (tr:List (List Int)):Prop where
 lv:Lv wr B s d 700 c X pl r T last tr
 fz:X.D.fuse= -1/\X.D.dead=false
 cc:c<=20+12000*N
 ou:X.D.out.length<=40
 fr:X.P.count 0+400≥688+10*X.D.out.length
 bel:Below w.heap.size w wr
 bsz:B<=wr.heap.size
theorem FlI.step {w wr w':World} {B s d N c:Nat} {F F':Nat->Prop} {X:Sx.St} {pl:Nat} {r:Rp} {T:List (Sp × Rp)} {last:List Int} {tr:List (List Int)} {zs:List Int} {E:Int} (h:FlI w wr B s d N c X pl r T last tr) (hwB:w.heap.size<=B) (hF:∀k,F k->B<=k) (hE:StF wr w' B s d 700 c F F' X pl r T last tr zs E):
  (E=6/\¬ned zs.length+ned ((700+7)/8)<=X.P.count 0/\FlI w w' B s d N c X pl r T last tr/\Sto w' s d F' X)\/
  (E=7/\∃c' X' T',FlI w w' B s d (N+1) c' X' pl r T' last (zs::tr)/\Sto w' s d F' X'/\X'.D.out.length+1<=X.D.out.length)\/
  (E=0/\∃c' X' pl' r',FlI w w' B s d (N+1) c' X' pl' r' [] zs []/\Sto w' s d F' X'/\X'.D.out.length<=X.D.out.length):=by
 obtain ⟨hst,-,hE⟩:=hE;have hbw:=(hst.below h.bsz hF).1;have hb:=h.bel.trans (hbw.mono hwB);have hz:=jP h.bsz hbw.size;have hcc:=h.cc;have hou:=h.ou;have hfr:=h.fr;rcases hE with ⟨rfl,h6,h7,hs⟩|⟨rfl,X',T',h7,hs,hbad,hmo,hcnt,-⟩|⟨rfl,X',r',h0,hs,hmo,-,-,-,-,-,-,-,hcnt⟩
 ·exact .inl ⟨rfl,h6,⟨h7,h.fz,h.cc,h.ou,h.fr,hb,hz⟩,hs⟩
 ·obtain ⟨f1,f2⟩:=hmo.fuse h.fz.1;have f3:X'.D.dead=false:=f2.trans h.fz.2
  have ho:X'.D.out.length<X.D.out.length:=by
   rcases hbad with e|e
   ·rw [f3] at e;cases e
   ·exact e
  exact .inr (.inl ⟨rfl,c+12000,X',T',⟨h7,⟨f1,f3⟩,by omega,by omega,by omega,hb,hz⟩,hs,ho⟩)
 ·obtain ⟨f1,f2⟩:=hmo.fuse h.fz.1;have ho:=hmo.out;exact .inr (.inr ⟨rfl,c+12000,X',_,r',⟨h0,⟨f1,f2.trans h.fz.2⟩,by omega,by omega,by omega,hb,hz⟩,hs,ho⟩)
theorem FlI.keep {w wr w':World} {B s d N c:Nat} {X:Sx.St} {pl:Nat} {r:Rp} {T:List (Sp × Rp)} {last:List Int} {tr:List (List Int)} (h:FlI w wr B s d N c X pl r T last tr) (hb:Below wr.heap.size wr w'):FlI w w' B s d N c X pl r T last tr:=
 ⟨h.lv.keep hb,h.fz,h.cc,h.ou,h.fr,h.bel.trans (hb.mono h.bel.size),jP h.bsz hb.size⟩
def FlP (w wr:World) (B s d k:Nat) (vL vT:Value):Prop:=∃(N c:Nat) (F:Nat->Prop) (X:Sx.St) (pl:Nat) (r:Rp) (T:List (Sp × Rp)) (last:List Int) (tr:List (List Int)) (TR:List Bx),N<=k/\FlI w wr B s d N c X pl r T last tr/\Sto wr s d F X/\(∀k,F k->B<=k)/\(∀g,vT.ownBlock=some g->¬F g)/\Inn w vL last/\OwnX B wr vT TR/\TR.length<=k/\(∀b∈TR,Row w b.a b.c b.z)/\∀z∈tr,∃i,i<TR.length/\(TR.getD i noBx).z=z
theorem own_step {w w':World} {B:Nat} {F F':Nat->Prop} {v:Value} {TR:List Bx} (h:OwnX B w v TR) (hg:∀g,v.ownBlock=some g->¬F g) (st:Step F F' w w'):OwnX B w' v TR/\∀g,v.ownBlock=some g->¬F' g:=
 ⟨yQ h fun g e=>st.1.block g (h.lt g e).2 (hg g e),fun g e hF=>by rcases st.2 g hF with k|k;exact hg g e k;have:=(h.lt g e).2;omega⟩
theorem tr_more {tr:List (List Int)} {TR:List Bx} (h:∀z∈tr,∃i,i<TR.length/\(TR.getD i noBx).z=z) (b:Bx):∀z∈b.z::tr,∃i,i<(TR++[b]).length/\((TR++[b]).getD i noBx).z=z:=by
 intro z hz;rcases List.mem_cons.1 hz with rfl|hz
 ·refine ⟨TR.length,by simp,?_⟩;simp
 ·obtain ⟨i,hi,e⟩:=h z hz;refine ⟨i,by simp;omega,?_⟩;rw [<-e];simp [qP hi]
theorem flp_tried {w w4 w5:World} {B s d N c k:Nat} {F:Nat->Prop} {X:Sx.St} {pl:Nat} {r:Rp} {T:List (Sp × Rp)} {last:List Int} {tr:List (List Int)} {TR:List Bx} {z:Bx} {vL vT:Value} (h:FlI w w4 B s d (N+1) c X pl r T last (z.z::tr)) (hs:Sto w4 s d F X) (hF:∀k,F k->B<=k) (hwB:w.heap.size<=B) (ho:OwnX B w4 vT TR) (hg:∀g,vT.ownBlock=some g->¬F g) (hN:N<=k) (hl:Inn w vL last) (hT:TR.length<=k) (hTr:∀b∈TR,Row w b.a b.c b.z) (hz:Row w z.a z.c z.z) (htr:∀y∈tr,∃i,i<TR.length/\(TR.getD i noBx).z=y) (o:Obj) {g cap:Nat} (ho5:OwnX B w5 (.slice (some ⟨g,0,none⟩) (TR.length+1) cap) (TR++[z])) (hc:Ch (w4.alloc o).heap.size (fun k=>vT.ownBlock=some k) (w4.alloc o) w5) (hg5:vT.ownBlock=some g\/g=(w4.alloc o).heap.size):FlP w w5 B s d (k+1) vL (.slice (some ⟨g,0,none⟩) (TR.length+1) cap):=by
 have ha:Below w4.heap.size w4 (w4.alloc o):=(Below.refl _ w4).alloc (jB _) _;have hz4:=h.bsz;have hza:=ha.size
 have hs5:Sto w5 s d F X:=by
  refine hs.keep (jP ha.size hc.size) fun x hx=>?_
  have hlt:=hs.lt x hx;exact (hc.block x (by omega) (fun e=>hg x e hx)).trans (ha.block x hlt)
 have hb5:Below B w4 w5:=(ha.mono hz4).trans ((hc.mono (by omega) (fun _ _ e=>e)).below fun x hx=>(ho.lt x hx).1);refine ⟨N+1,c,F,X,pl,r,T,last,z.z::tr,TR++[z],by omega,⟨{h.lv with sto:=⟨F,hs5,hF⟩},h.fz,h.cc,h.ou,h.fr,h.bel.trans (hb5.mono hwB),jP hz4 hb5.size⟩,hs5,hF,fun x hx=>?_,hl,ho5,by simp;omega,fun b hb=>?_,tr_more htr z⟩
 ·cases hx;rcases hg5 with e|e
  ·exact hg _ e
  ·intro hx;have h9:g<w4.heap.size:=hs.lt g hx;omega
 ·rcases List.mem_append.1 hb with hb|hb
  ·exact hTr b hb
  ·rw [List.mem_singleton.1 hb];exact hz
theorem FlP.below {w wr w':World} {B s d k:Nat} {vL vT:Value} (h:FlP w wr B s d k vL vT) (hb:Below wr.heap.size wr w'):FlP w w' B s d k vL vT:=by
 obtain ⟨N,c,F,X,pl,r,T,last,tr,TR,hN,hI,hS,hF,hG,hL,hX,hTl,hTr,htr⟩:=h;exact ⟨N,c,F,X,pl,r,T,last,tr,TR,hN,hI.keep hb,hS.below hb,hF,hG,hL,hX.below hb,hTl,hTr,htr⟩
set_option maxHeartbeats 4000000 in
set_option maxRecDepth 100000 in
theorem walk (a0:Option Addr) (cap0:Nat) (l0:List Bx) (a1:Option Addr) (cap1:Nat) (l1:List Int) (a2:Option Addr) (cap2:Nat) (l2:List Int) (w:World) (w0:IsRws w a0 cap0 l0) (w1:Row w a1 cap1 l1) (n1:a1=none->cap1=0) (w2:Row w a2 cap2 l2) (n2:a2=none->cap2=0):
  Calls prog 8 #[.slice a0 l0.length cap0,.slice a1 l1.length cap1,.slice a2 l2.length cap2] w fun e w'=>e=.returned (.bool true)/\Below w.heap.size w w':=by
 have haw:=awake13 w;have hsm:=fun (wx:World) (hx:Below w.heap.size w wx)=>small_any a0 cap0 l0 wx (w0.below hx)
 have hfr:∀(wx:World),Calls prog 10 #[.int .i64 700,.int .i64 8] wx _:=fun wx=>FR (w:=wx) (n:=700) (N:=8) (by decide) (by decide) (by decide) (by decide)
 have HW:Hid (IsRws w a0 cap0 l0/\Row w a1 cap1 l1/\(a1=none->cap1=0)/\Row w a2 cap2 l2):=⟨w0,w1,n1,w2⟩;have hc0:=w0.1;have hm0:=w0.2.1;have hc1:=w1.2.1;have hm1:=w1.2.2.1;have hc2:=w2.2.1;have hm2:=w2.2.2.1;unfold maxLen at hm0 hm1 hm2;clear w0 w1 w2 n1 n2;obtain ⟨n,hn⟩:∃n,l0.length=n:=⟨_,rfl⟩;obtain ⟨n1,hn1⟩:∃n,l1.length=n:=⟨_,rfl⟩;obtain ⟨n2,hn2⟩:∃n,l2.length=n:=⟨_,rfl⟩;have HN:Hid (l0.length=n/\l1.length=n1/\l2.length=n2):=⟨hn,hn1,hn2⟩;rw [hn] at hsm hc0 ⊢;rw [hn1] at hc1 ⊢;rw [hn2] at hc2 ⊢;clear hn hn1 hn2;cases hb:smB l0 with
 |false=>
  rw [hb] at hsm;go_enter func8,ntmps8
  go_wp2_with (first
   |(go_at_call 9;refine haw.mono ?_;rintro e w1 ⟨rfl,hb1⟩;have hs1:=hsm w1 hb1;have H1:Hid (Below w.heap.size w w1):=hb1;clear haw hb1 hsm)
   |(go_at_call 36;refine hs1.mono ?_;rintro e w' ⟨rfl,rfl⟩;clear hs1))
  go_ret
  exact ⟨rfl,H1.out⟩
 |true=>
  rw [hb] at hsm;by_cases hbig:n<=12/\n2<=300/\n1<=40;rotate_left
  ·have hbs:12<n\/(n<=12/\300<n2)\/(n<=12/\n2<=300/\40<n1):=by omega
   clear hbig;go_enter func8,ntmps8
   rcases hbs with hbs|⟨hbs,hbt⟩|⟨hbs,hbt,hbu⟩
   all_goals (
    go_wp2_with (first
     |(go_at_call 9;refine haw.mono ?_;rintro e w1 ⟨rfl,hb1⟩;have hs1:=hsm w1 hb1;have H1:Hid (Below w.heap.size w w1):=hb1;clear haw hb1 hsm)
     |(go_at_call 36;refine hs1.mono ?_;rintro e w' ⟨rfl,rfl⟩;clear hs1))
    go_ret
    exact ⟨rfl,H1.out⟩)
  obtain ⟨hn12,hn300,hn40⟩:=hbig;have HSM:Hid (smB l0=true):=hb;clear hb;go_enter func8,ntmps8
  go_wp2_with (first
   |(go_at_call 9;refine haw.mono ?_;rintro e w1 ⟨rfl,hb1⟩;have hs1:=hsm w1 hb1;have hfr1:=hfr w1;have H1:Hid (Below w.heap.size w w1):=hb1;clear haw hb1 hsm hfr)
   |(go_at_call 36;refine hs1.mono ?_;rintro e w' ⟨rfl,rfl⟩;clear hs1)
   |(go_at_call 10;refine hfr1.mono ?_;clear hfr1;rintro e w2 ⟨s,d,X0,r0,rfl,hf,hl,hv,hb2⟩
     have hdv:=hl.device;have hB2:Below w.heap.size w w2:=H1.out.trans (hb2.mono H1.out.size);have hou:=hl.outcomes hb2.size a1 cap1 l1 (HW.out.2.1.below hB2) HW.out.2.2.1 n1 HN.out.2.1 (by rw [hv.well.out];show 0+n1<=_;omega)
     have H2:Hid (Below w1.heap.size w1 w2/\X0.D.out=[]/\X0.D.fuse= -1/\X0.D.dead=false/\X0.P.count 0≥688):=⟨hb2,hv.well.out,hv.well.fuse,hv.well.dead,by
      have h1:=hl.free hv;rw [hf.cl] at h1;have h2:ned ((700+7)/8)=1:=by decide
      omega⟩
     clear hf hl hv hb2 hB2)
   |(go_at_call 39;refine hdv.mono ?_;clear hdv;rintro e w' ⟨rfl,rfl⟩)
   |(go_at_call 43;refine hou.mono ?_;clear hou;rintro e w3 ⟨rfl,hl3,hb3⟩
     have H3:Hid (Lv w3 w1.heap.size s d 700 20 {X0 with D:=outD X0.D l1} 0 r0 [] [] []/\Below w1.heap.size w2 w3):=⟨hl3,hb3⟩;clear hl3 hb3))
  obtain ⟨B,hB⟩:∃B,w1.heap.size=B:=⟨_,rfl⟩;have HB1:Hid (w.heap.size<=B/\True):=⟨by rw [<-hB];exact H1.out.size,trivial⟩
  have HI0:Hid (FlI w w3 B s d 0 20 {X0 with D:=outD X0.D l1} 0 r0 [] [] []):=by
   obtain ⟨h1,h2⟩:=H3.out;obtain ⟨h3,h4,h5,h6,h7⟩:=H2.out;rw [hB] at h1 h2;have z1:=H1.out.size;have z2:=h3.size;have z3:=h2.size;have ho:(outD X0.D l1).out.length=n1:=by show (X0.D.out++l1).length=n1;rw [h4];exact HN.out.2.1
   refine ⟨h1,⟨h5,h6⟩,by omega,by show (outD X0.D l1).out.length<=40;omega,?_,H1.out.trans ((h3.mono z1).trans (h2.mono (by omega))),by omega⟩;show X0.P.count 0+400≥688+10*(outD X0.D l1).out.length;omega
  clear H2 H3 hB;obtain ⟨F3,hs3,hF3⟩:=HI0.out.lv.sto;have HP0:Hid (FlP w w3 B s d 0 (.slice none 0 0) (.slice none 0 0)):=⟨0,20,F3,_,0,r0,[],[],[],[],jB _,HI0.out,hs3,hF3,fun g hg=>(by cases hg),Inn.nil w,OwnX.nil _ _,jB _,fun b hb=>(by cases hb),fun z hz=>(by cases hz)⟩;clear hs3 hF3;clear HI0;go_loopg [8,9,10] n (fun gh vL' vT' i wr=>∃(vL vT:Value) (k:Nat),vL=vL'/\vT=vT'/\k<=n/\gh=n-k/\i=.int .i64 (k:Int)/\Hid (FlP w wr B s d k vL vT))
  case atStart=>exact ⟨_,_,0,rfl,rfl,jT _,rfl,rfl,HP0.out⟩
  case round=>
   clear HP0;obtain ⟨vL,vT,k,rfl,rfl,hk,hgk,rfl,HP⟩:=hrel;have HGK:Hid (gk=n-k):=hgk;clear hgk;by_cases hkn:k<n
   ·obtain ⟨N,c,F,X,pl,r,T,last,tr,TR,hN,hI,hS,hF,hG,hL,hX,hTl,hTr,htr⟩:=HP.out;have HI:Hid (FlI w wr B s d N c X pl r T last tr/\Sto wr s d F X/\(∀k,F k->B<=k)/\(∀g,vT.ownBlock=some g->¬F g)/\Inn w vL last/\OwnX B wr vT TR/\(∀b∈TR,Row w b.a b.c b.z)/\∀z∈tr,∃i,i<TR.length/\(TR.getD i noBx).z=z):=⟨hI,hS,hF,hG,hL,hX,hTr,htr⟩;obtain ⟨bo,oo,hao,hbo⟩:∃b off,a0=some ⟨b,off,none⟩/\∀i,i<l0.length->BxAt' w b (off+i) (l0.getD i noBx):=HW.out.1.2.2.resolve_left (fun e=>by have:=HN.out.1;rw [e] at this;simp at this;omega);subst hao;have hat:=hbo k (by have:=HN.out.1;omega);have hatr:=hat.below hI.bel;have hsz:=smB_at HSM.out (i:=k) (by have:=HN.out.1;omega);have hin:=Inn.of (o:=oo+k) hat;obtain ⟨z,hz⟩:∃z,l0.getD k noBx=z:=⟨_,rfl⟩;rw [hz] at hatr hsz hin hat;have hc4:=hatr.c0;have hst:=step_lv hI.lv hS hF z.a z.c z.z hatr.row ((row_lt hat.row).imp id (fun hh kk ⟨x,e,hx⟩=>by have h1:=hh x e;have h2:=HB1.out.1;have h3:=hI.bsz;rw [<-hx];exact ⟨by omega,fun hk=>by have:=hF _ hk;omega⟩)) hI.bsz hsz (by have:=hI.cc;omega);have HZ:Hid (Inn w (.slice z.a z.z.length z.c) z.z/\BxAt' w bo (oo+k) z):=⟨hin,hat⟩;obtain ⟨zl,hzl⟩:∃m,z.z.length=m:=⟨_,rfl⟩;have HZL:Hid (z.z.length=zl):=hzl;rw [hzl] at hc4 hst;have hkc:k<cap0:=by omega
    clear hbo hat hatr hsz hin hz hzl hI hS hF hG hL hX hTr htr HP;go_wp2_with fail
    refine hst.mono ?_;clear hst;rintro e w4 ⟨E,F',rfl,hE⟩;have hbw:=(hE.1.below HI.out.1.bsz HI.out.2.2.1).1
    have hc5:w4.cell? ⟨bo,oo+k,none⟩=some (.slice z.a zl z.c):=by
     have h1:=HZ.out.2.c0;rw [HZL.out] at h1;exact ((HI.out.1.bel.trans (hbw.mono HB1.out.1)).cell (block_lt_of_cell h1)).trans h1
    have hcases:=HI.out.1.step HB1.out.1 HI.out.2.2.1 hE;obtain ⟨ho4,hg4⟩:=own_step HI.out.2.2.2.2.2.1 HI.out.2.2.2.1 hE.1;have HW4:Hid (OwnX B w4 vT TR/\(∀g,vT.ownBlock=some g->¬F' g)/\∀k,F' k->B<=k):=⟨ho4,hg4,hE.2.1⟩;clear hE hc4 hbw ho4 hg4;go_upto_block 2 with fail
    go_cut [8,9] (fun vL' vT' wx=>∃(vL vT:Value),vL=vL'/\vT=vT'/\Hid (FlP w wx B s d (k+1) vL vT))
    case first=>
     rcases hcases with ⟨rfl,-,h6,hs6⟩|⟨rfl,c',X',T',h7,hs7,-⟩|⟨rfl,c',X',pl',r',h0,hs0,-⟩
     ·have HQ:Hid (FlP w w4 B s d (k+1) vL vT):=⟨N,c,F',X,pl,r,T,last,tr,TR,by omega,h6,hs6,HW4.out.2.2,HW4.out.2.1,HI.out.2.2.2.2.1,HW4.out.1,by omega,HI.out.2.2.2.2.2.2.1,HI.out.2.2.2.2.2.2.2⟩;clear h6 hs6;go_wp2;go_meet
      exact ⟨_,_,rfl,rfl,HQ.out⟩
     ·have H7:Hid (FlI w w4 B s d (N+1) c' X' pl r T' last (z.z::tr)/\Sto w4 s d F' X'/\TR.length<=k):=⟨h7,hs7,hTl⟩;clear h7 hs7 hTl;go_wp2_with (at_builtin;refine append_x rfl _ _ rfl B vT TR rfl (HW4.out.1.below ((Below.refl _ w4).alloc (jB _) _)) ⟨w4.heap.size,0,none⟩ 1 z rfl (by simp [Addr.add,bxV,HZL.out]) (by have:=H7.out.2.2;omega) (by have:=H7.out.1.bsz;simp;omega) ?_;intro g cap w5 ho5 hc5' hg5;have HQ:Hid (FlP w w5 B s d (k+1) vL (.slice (some ⟨g,0,none⟩) (TR.length+1) cap)):=flp_tried H7.out.1 H7.out.2.1 HW4.out.2.2 HB1.out.1 HW4.out.1 HW4.out.2.1 hN HI.out.2.2.2.2.1 H7.out.2.2 HI.out.2.2.2.2.2.2.1 HZ.out.2.row HI.out.2.2.2.2.2.2.2 _ ho5 hc5' hg5;clear ho5 hc5' hg5)
      go_meet
      exact ⟨_,_,rfl,rfl,HQ.out⟩
     ·have HQ:Hid (FlP w w4 B s d (k+1) (.slice z.a zl z.c) (.slice none 0 0)):=⟨N+1,c',F',X',pl',r',[],z.z,[],[],by omega,h0,hs0,HW4.out.2.2,fun g hg=>(by cases hg),by rw [<-HZL.out];exact HZ.out.1,OwnX.nil _ _,jT _,fun b hb=>(by cases hb),fun z hz=>(by cases hz)⟩;clear h0 hs0;go_wp2;go_meet
      exact ⟨_,_,rfl,rfl,HQ.out⟩
    case rest=>
     clear hcases HW4 HI HZL HZ hc5 hkc hTl hN;obtain ⟨vL2,vT2,rfl,rfl,HP2⟩:=hcut;obtain ⟨N2,c2,F2,X2,pl2,r2,T2,last2,tr2,TR2,hN2,hI2,hS2,hF2,hG2,hL2,hX2,hTl2,hTr2,htr2⟩:=HP2.out;obtain ⟨al,cl,rfl,hrl,hol⟩:=hL2;obtain ⟨aT,cT,rfl,hws⟩:=hX2.rws (fun b hb=>(hTr2 b hb).below hI2.bel);have hdv:=hI2.lv.device;have hcr:=hI2.lv.crash (by have:=hI2.cc;omega) a2 cap2 l2 (HW.out.2.2.2.below hI2.bel);rw [HN.out.2.2] at hcr;have hst1:=fun (w0 wx:World) (q:Nat) (Fq:Nat->Prop) (ch:List Int) (hb0:Below wc.heap.size wc w0) (hd:Dev wx q Fq (crashD X2.D ch)) (hF:∀k,Fq k->w0.heap.size<=k) (hb:Below w0.heap.size w0 wx)=>stands_any hI2.lv ch hd hF hb (jP hI2.bsz hb0.size) al cl ((hrl.below hI2.bel).below hb0) (hol.imp id (fun hh k hk=>by have h1:=hh k hk;have h2:=HB1.out.1;omega)) last2.length rfl aT cT TR2 TR2.length (hws.below hb0) rfl (by omega) (fun b hb=>(row_lt (hTr2 b hb)).imp id (fun hh k ⟨x,e,hx⟩=>by have h1:=hh x e;have h2:=HB1.out.1;omega)) htr2
     have HK:Hid (Lv wc B s d 700 c2 X2 pl2 r2 T2 last2 tr2/\c2<=900000):=⟨hI2.lv,by have:=hI2.cc;omega⟩;obtain ⟨nl,hnl⟩:∃m,last2.length=m:=⟨_,rfl⟩;obtain ⟨nT,hnT⟩:∃m,TR2.length=m:=⟨_,rfl⟩;rw [hnl,hnT] at hst1;rw [hnl,hnT] at HP2 ⊢;have HP3:Hid (FlP w wc B s d (k+1) (.slice al nl cl) (.slice aT nT cT)):=HP2.out;clear hI2 hS2 hF2 hG2 hX2 hTl2 hTr2 htr2 hrl hol hws hnl hnT HP2 hN2
     go_wp2_with (first
      |(go_at_call 39;refine hdv.mono ?_;clear hdv;rintro e w' ⟨rfl,rfl⟩)
      |(go_at_call 40;refine hcr.mono ?_;clear hcr;rintro e w5 ⟨q,Fq,rfl,q1,q2,q3⟩
        have hsd:=hst1 wc w5 q Fq l2 (Below.refl _ _) q1 q3 q2;have H5:Hid (Below wc.heap.size wc w5/\∀k,Fq k->wc.heap.size<=k):=⟨q2,q3⟩;clear q1 q2 q3)
      |(go_at_call 44;refine hsd.mono ?_;clear hsd;rintro e w6 ⟨rfl,hc6⟩
        have hb6:Below wc.heap.size wc w6:=H5.out.1.trans ((hc6.mono H5.out.1.size (fun _ _ e=>e)).below H5.out.2);have hl6:=HK.out.1.keep hb6;have hdv2:=hl6.device;have hcr2:=hl6.crash (by have:=HK.out.2;omega) none 0 [] (row0 w6);have H6:Hid (Below wc.heap.size wc w6):=hb6;clear hc6 hb6 hl6)
      |(go_at_call 39;refine hdv2.mono ?_;clear hdv2;rintro e w' ⟨rfl,rfl⟩)
      |(go_at_call 40;refine hcr2.mono ?_;clear hcr2;rintro e w7 ⟨q,Fq,rfl,q1,q2,q3⟩
        have hsd2:=hst1 w6 w7 q Fq [] H6.out q1 q3 q2;have H7:Hid (Below w6.heap.size w6 w7/\∀k,Fq k->w6.heap.size<=k):=⟨q2,q3⟩;clear q1 q2 q3 hst1)
      |(go_at_call 44;refine hsd2.mono ?_;clear hsd2;rintro e w8 ⟨rfl,hc8⟩
        have H8:Hid (FlP w w8 B s d (k+1) (.slice al nl cl) (.slice aT nT cT)):=HP3.out.below (H6.out.trans ((H7.out.1.trans ((hc8.mono H7.out.1.size (fun _ _ e=>e)).below H7.out.2)).mono H6.out.size));clear hc8))
     go_roundg (n-(k+1))
     case rel=>exact ⟨_,_,k+1,rfl,rfl,by omega,rfl,by go_num,H8.out⟩
     case measure=>have:=HGK.out;omega
   ·obtain ⟨N,c,F,X,pl,r,T,last,tr,TR,hN,hI,-,-,-,-,-,-,-,-⟩:=HP.out;have hkn':k=n:=by omega
    subst hkn';have HI2:Hid (FlI w wr B s d N c X pl r T last tr/\X.D.out.length+0<=40):=⟨hI,hI.ou⟩;clear hI HP;go_wp2_with fail
    go_loopg [12] 60 (fun gh vi wq=>∃(j N c:Nat) (X:Sx.St) (pl:Nat) (r:Rp) (T:List (Sp × Rp)) (last:List Int) (tr:List (List Int)),j<=40/\N<=12+j/\gh=60-j/\vi=.int .i64 (j:Int)/\Hid (FlI w wq B s d N c X pl r T last tr/\X.D.out.length+j<=40))
    case atStart=>exact ⟨0,N,c,X,pl,r,T,last,tr,jT _,by omega,rfl,rfl,HI2.out⟩
    case round=>
     clear HI2;obtain ⟨j,N,c,X,pl,r,T,last,tr,hj,hNj,hgj,rfl,HI⟩:=hrel;have HGJ:Hid (gk=60-j):=hgj;clear hgj;obtain ⟨F,hS,hF⟩:=HI.out.1.lv.sto;have hj60:j<60:=by omega
     obtain ⟨wA,hwA⟩:∃wA,wr.alloc (.cells #[.int .u8 1,.int .u8 2,.int .u8 3] 5)=wA:=⟨_,rfl⟩;have hbb:Below wr.heap.size wr wA:=by rw [<-hwA];exact (Below.refl _ wr).alloc (jB _) _
     have hsz:wr.heap.size<wA.heap.size:=by rw [<-hwA];simp
     have hrow:Row wA (some ⟨wr.heap.size,0,none⟩) 3 [1,2,3]:=by rw [<-hwA];exact row_new wr [1,2,3] 5 (by unfold Bys;decide) (by decide)
     have hst:=step_lv (HI.out.1.lv.keep hbb) (hS.below hbb) hF (some ⟨wr.heap.size,0,none⟩) 3 [1,2,3] hrow (.inr fun x hx=>by
      obtain ⟨y,e,hy⟩:=hx;cases e;subst hy;exact ⟨hsz,fun hf=>by have h9:wr.heap.size<wr.heap.size:=hS.lt _ hf;omega⟩) (jP HI.out.1.bsz hbb.size) (by decide) (by have:=HI.out.1.cc;omega)
     have HA:Hid (FlI w wA B s d N c X pl r T last tr):=HI.out.1.keep hbb;go_wp2_with fail
     clear hrow hbb hsz hwA hS;refine hst.mono ?_;clear hst;rintro e w4 ⟨E,F',rfl,hE⟩;rcases HA.out.step HB1.out.1 hF hE with ⟨rfl,h6,-,-⟩|⟨rfl,c',X',T',h7,-,ho⟩|⟨rfl,c',X',pl',r',h0,-,-⟩
     ·exfalso;have h1:=HI.out.1.fr;have h2:ned ([1,2,3]:List Int).length+ned ((700+7)/8)=2:=by decide
      omega
     ·have H7:Hid (FlI w w4 B s d (N+1) c' X' pl r T' last ([1,2,3]::tr)/\X'.D.out.length+(j+1)<=40):=⟨h7,by have:=HI.out.2;omega⟩;have hj40:j+1<=40:=by have:=HI.out.2;omega
      clear h7 hE hF ho;go_wp2_with fail
      go_roundg (60-(j+1))
      case rel=>exact ⟨j+1,N+1,c',X',pl,r,T',last,_,hj40,by omega,rfl,by go_num,H7.out⟩
      case measure=>have:=HGJ.out;omega
     ·have hdv:=h0.lv.device;have hcr:=h0.lv.crash (by have:=h0.cc;omega) a2 cap2 l2 (HW.out.2.2.2.below h0.bel);rw [HN.out.2.2] at hcr
      have hfl:(oaR (crashD X'.D l2).now).st=[1,2,3]:=by
       rcases (h0.lv.fall l2).2.2 with h|⟨h,_⟩
       ·exact h
       ·exact absurd rfl h
      have H0:Hid (FlI w w4 B s d (N+1) c' X' pl' r' [] [1,2,3] []/\(oaR (crashD X'.D l2).now).st=[1,2,3]):=⟨h0,hfl⟩;clear h0 hE hF hfl
      go_wp2_with (first
       |(go_at_call 39;refine hdv.mono ?_;clear hdv;rintro e w' ⟨rfl,rfl⟩)
       |(go_at_call 40;refine hcr.mono ?_;clear hcr;rintro e w5 ⟨q,Fq,rfl,q1,q2,q3⟩
         obtain ⟨wB,hwB⟩:∃wB,w5.alloc (.cells #[.int .u8 1,.int .u8 2,.int .u8 3] 5)=wB:=⟨_,rfl⟩;have hbb:Below w5.heap.size w5 wB:=by rw [<-hwB];exact (Below.refl _ w5).alloc (jB _) _
         have hsz:w5.heap.size<wB.heap.size:=by rw [<-hwB];simp
         have hrow:Row wB (some ⟨w5.heap.size,0,none⟩) 3 [1,2,3]:=by rw [<-hwB];exact row_new w5 [1,2,3] 5 (by unfold Bys;decide) (by decide)
         have hlq:∀x,Fq x->x<w5.heap.size:=q1.2.1
         have hwl:=crashWhole2 (k:=0) H0.out.1.lv l2 (q1.below hbb) (by omega) (some ⟨w5.heap.size,0,none⟩) 3 [1,2,3] hrow (.inr fun x hx=>by
          obtain ⟨y,e,hy⟩:=hx;cases e;subst hy;exact ⟨hsz,fun hf=>by have h9:w5.heap.size<w5.heap.size:=hlq _ hf;omega⟩) 3 rfl
         rw [H0.out.2,show sameB [1,2,3] [1,2,3]=true by decide,<-hwB] at hwl;have H5:Hid (Below w4.heap.size w4 (w5.alloc (.cells #[.int .u8 1,.int .u8 2,.int .u8 3] 5))/\∀x,Fq x->w4.heap.size<=x):=⟨q2.trans ((by rw [hwB];exact hbb.mono q2.size)),q3⟩;clear q1 q2 q3 hbb hsz hrow hlq hwB)
       |(go_at_call 21;refine hwl.mono ?_;clear hwl;rintro e w6 ⟨rfl,hc6⟩
         have H6:Hid (Below w.heap.size w w6):=by
          have h1:=H5.out.1.trans ((hc6.mono H5.out.1.size (fun _ _ e=>e)).below H5.out.2);exact H0.out.1.bel.trans (h1.mono H0.out.1.bel.size)
         clear hc6))
      go_ret
      exact ⟨rfl,H6.out⟩
end Go.Proofs.YtaijfhadecennaaGreat.storeFails
